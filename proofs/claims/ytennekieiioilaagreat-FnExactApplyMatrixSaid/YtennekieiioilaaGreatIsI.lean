/-
  The program's IsMatrix.
-/
import Derived.Test.YtennekieiioilaaGreatIsMW
import Derived.Test.YtennekieiioilaaGreatPkF
import Derived.Test.YtennekieiioilaaGreatSgR
namespace Go.Proofs.YtennekieiioilaaGreat
open Go.ChangeShapes Go.WideShapes Go.ChangeAt Go.RowKit
open Go.ChangeMaps (open_string shut_string)
set_option linter.unusedVariables false
set_option linter.unusedSimpArgs false
set_option maxRecDepth 4000

/-- One element of a row, for the program. -/
def okI (n : Nat) (p : MR) (i : Nat) : Bool := elB n p i && okx (((datQ p.V)[i]?).getD noR)
def lst (p : MR) (k : Nat) : Int := if k = 0 then 0 else (p.cs[k - 1]?).getD 0 + 1
theorem rng_succ (f : Nat → Bool) (j : Nat) (h : (List.range j).all f = true) : (List.range (j + 1)).all f = f j := by
  rw [List.range_succ, List.all_append, h]; simp
theorem rng_no {f : Nat → Bool} {j n : Nat} (hj : j < n) (h : f j = false) : (List.range n).all f = false := by
  cases hx : (List.range n).all f with
  | false => rfl
  | true => rw [List.all_eq_true.1 hx j (List.mem_range.2 hj)] at h; cases h
theorem rng_at {f : Nat → Bool} {j n : Nat} (h : (List.range n).all f = true) (hj : j < n) : f j = true := List.all_eq_true.1 h j (List.mem_range.2 hj)
theorem validB_range (V : List RV) : validB V = (List.range V.length).all (fun i => okx (((datQ V)[i]?).getD noR)) := by
  rw [Bool.eq_iff_iff]
  constructor
  · intro h
    refine List.all_eq_true.2 fun i hi => ?_
    obtain ⟨v, hv⟩ := getQ (L := V) (List.mem_range.1 hi)
    rw [show (datQ V)[i]? = some v.x by unfold datQ; rw [List.getElem?_map, hv]; rfl]
    exact validB_at h hv
  · intro h
    refine List.all_eq_true.2 fun v hv => ?_
    obtain ⟨i, hi⟩ := List.getElem?_of_mem hv
    have k := rng_at h (lt_of_getQ hi)
    rw [show (datQ V)[i]? = some v.x by unfold datQ; rw [List.getElem?_map, hi]; rfl] at k
    exact k
theorem rng_and (f g : Nat → Bool) (n : Nat) : (List.range n).all (fun i => f i && g i) = ((List.range n).all g && (List.range n).all f) := by
  rw [Bool.eq_iff_iff, Bool.and_eq_true, List.all_eq_true, List.all_eq_true, List.all_eq_true]
  constructor
  · intro h; exact ⟨fun i hi => by have := h i hi; simp at this; exact this.2, fun i hi => by have := h i hi; simp at this; exact this.1⟩
  · intro h i hi; rw [h.2 i hi, h.1 i hi]; rfl
theorem rowB_I (n : Nat) (p : MR) (h : p.cs.length = p.V.length) : rowB n p = (List.range p.cs.length).all (okI n p) := by
  unfold rowB
  rw [decide_eq_true h, Bool.true_and, validB_range, ← h]
  exact (rng_and (elB n p) (fun i => okx (((datQ p.V)[i]?).getD noR)) p.cs.length).symm
theorem okI_el {n : Nat} {p : MR} {k : Nat} (h : okI n p k = true) : 0 ≤ (p.cs[k]?).getD 0 ∧ (p.cs[k]?).getD 0 ≤ (n : Int) - 1 := by
  unfold okI elB at h
  simp only [Bool.and_eq_true, decide_eq_true_eq] at h
  exact h.1.1
theorem lst_nonneg {n : Nat} {p : MR} {k : Nat} (h : (List.range k).all (okI n p) = true) : 0 ≤ lst p k := by
  unfold lst
  split
  · omega
  · have := (okI_el (rng_at h (show k - 1 < k by omega))).1
    omega
theorem lst_succ {p : MR} {k : Nat} {z : Int} (h : p.cs[k]? = some z) : z + 1 = lst p (k + 1) := by
  unfold lst
  rw [if_neg (by omega), Nat.add_sub_cancel, h]; rfl
theorem okI_step {n : Nat} {p : MR} {k : Nat} {z : Int} {v : RV} (h : (List.range k).all (okI n p) = true) (hz : p.cs[k]? = some z) (hv : p.V[k]? = some v) : okI n p k = (decide (¬ z < lst p k) && (decide (¬ (n : Int) ≤ z) && (okx v.x && (sgnO (valx v.x) != 0)))) := by
  have e : okI n p k = ((decide (0 ≤ z ∧ z ≤ (n : Int) - 1) && (((k == 0) || decide ((p.cs[k - 1]?).getD 0 < z)) && (sgnO (valx v.x) != 0))) && okx v.x) := by
    unfold okI elB
    rw [hz, show (datQ p.V)[k]? = some v.x by unfold datQ; rw [List.getElem?_map, hv]; rfl]
    rfl
  rw [e]
  generalize (sgnO (valx v.x) != 0) = s
  generalize okx v.x = b
  have q : (decide (0 ≤ z ∧ z ≤ (n : Int) - 1) && ((k == 0) || decide ((p.cs[k - 1]?).getD 0 < z))) = (decide (¬ z < lst p k) && decide (¬ (n : Int) ≤ z)) := by
    rw [Bool.eq_iff_iff]
    simp only [Bool.and_eq_true, Bool.or_eq_true, decide_eq_true_eq, beq_iff_eq]
    unfold lst
    by_cases hk : k = 0
    · rw [if_pos hk]
      exact ⟨fun h => by omega, fun h => ⟨by omega, .inl hk⟩⟩
    · rw [if_neg hk]
      have := (okI_el (rng_at h (show k - 1 < k by omega))).1
      simp only [hk, false_or]; omega
  have r : ∀ a b c d f g : Bool, (a && b) = (c && d) → ((a && (b && f)) && g) = (c && (d && (g && f))) := by decide
  exact r _ _ _ _ _ _ q
attribute [local go_sem ↓] Go.wp_at_zero Go.wp_at_succ
set_option maxHeartbeats 4000000 in
theorem impl_rowValid (p : MR) (N : Nat) (w : World) (hN : N ≤ 9223372036854775807) (lp : LenX p) (hA : Rds w (rmx p)) :
    Calls Tryz.prog 56 #[.agg #[.slice p.A p.cs.length p.c, .slice p.B p.V.length p.d], .int .i64 (N : Int)] w (fun e w' => e = .returned (.bool (rowB N p)) ∧ Below w.heap.size w w') := by
  have RP : Hid (∀ W, Below w.heap.size w W → Rds W (rmx p)) := Lib.hid (fun W hb => hA.below hb)
  have LP := Lib.hid lp
  obtain ⟨m, hm⟩ : ∃ m, m = p.cs.length := ⟨_, rfl⟩
  obtain ⟨k, hk⟩ : ∃ k, k = p.V.length := ⟨_, rfl⟩
  obtain ⟨r, hr⟩ : ∃ r, r = rowB N p := ⟨_, rfl⟩
  rw [← hm, ← hk, ← hr]
  have hm63 : m ≤ 9223372036854775807 := by rw [hm]; exact lp.1
  by_cases hmk : m = k
  case neg =>
    have hrf : r = false := by rw [hr]; unfold rowB; rw [← hm, ← hk, decide_eq_false hmk, Bool.false_and]
    subst hrf
    have P_e := heap_alloc_new w (.cells #[.slice p.A m p.c, .slice p.B k p.d] 71)
    have kb := ba1 w (.cells #[.slice p.A m p.c, .slice p.B k p.d] 71)
    have e0 := rblk_cell P_e 0
    have e1 := rblk_cell P_e 1
    have qmk : ((m : Int) != (k : Int)) = true := by rw [bne_iff_ne]; omega
    clear hr hm hk hA lp hmk P_e
    go_enter Tryz.func56, Tryz.ntmps56
    go_wp2
    go_ret
    exact ⟨rfl, kb⟩
  subst hmk
  have HRR : Hid (r = (List.range m).all (okI N p)) := Lib.hid (by rw [hr, rowB_I N p (hm.symm.trans hk), ← hm])
  have HM := Lib.hid (And.intro hm hk)
  have qmk : ((m : Int) != (m : Int)) = false := by simp
  have P_e := heap_alloc_new w (.cells #[.slice p.A m p.c, .slice p.B m p.d] 71)
  have kb := ba1 w (.cells #[.slice p.A m p.c, .slice p.B m p.d] 71)
  have e0 := rblk_cell P_e 0
  have e1 := rblk_cell P_e 1
  clear hr hm hk hA lp
  go_enter Tryz.func56, Tryz.ntmps56
  go_wp2_with fail
  clear e0 e1
  generalize w.alloc (.cells #[.slice p.A m p.c, .slice p.B m p.d] 71) = Wb at P_e kb ⊢
  go_loopw [5, 18] (fun l i w' => ∃ (j : Nat) (x : Int), j ≤ m ∧ i = .int .i64 (j : Int) ∧ l = .int .i64 x ∧ x = lst p j ∧ (List.range j).all (okI N p) = true ∧ w'.heap[w.heap.size]? = some (.cells #[.slice p.A m p.c, .slice p.B m p.d] 71 (0, 0)) ∧ Below w.heap.size w w') (fun _ i _ => m - (intOf i).toNat)
  case atStart => exact ⟨0, 0, Nat.zero_le _, rfl, rfl, rfl, rfl, P_e, kb⟩
  case round =>
    clear P_e kb
    obtain ⟨j, x, hj, rfl, rfl, hx, hall, P_e, kb⟩ := hrel
    by_cases hlt : j < m
    · obtain ⟨z, hz⟩ : ∃ z, p.cs[j]? = some z := ⟨p.cs[j]'(by rw [← HM.out.1]; exact hlt), List.getElem?_eq_getElem _⟩
      obtain ⟨v, hv⟩ := getQ (L := p.V) (i := j) (by rw [← HM.out.2]; exact hlt)
      have hst := okI_step hall hz hv
      have hx0 := lst_nonneg hall
      rw [← hx] at hst hx0
      have lv := LP.out.2.2 v (List.mem_of_getElem? hv)
      have HS := Lib.hid ((rng_succ _ _ hall).trans hst)
      have HF : Hid (okI N p j = false → r = false) := Lib.hid (fun h => by rw [HRR.out]; exact rng_no hlt h)
      rw [hst] at HF
      have HLS := Lib.hid (lst_succ hz)
      have HOK : Hid (∀ W, Below wr.heap.size wr W → Calls Tryz.prog 69 #[.agg #[.bool v.x.p, .slice v.a.A v.x.l.length v.a.c, .slice v.a.D v.x.m.length v.a.d]] W (fun e w' => e = .returned (.bool (okx v.x)) ∧ Below W.heap.size W w')) := Lib.hid (fun W hb => impl_rok v.x.p v.x.l v.x.m v.a.A v.a.D _ v.a.c _ v.a.d W rfl rfl lv.1 lv.2 (rows_rd (((RP.out _ kb).tl.tl.atQ hv).below hb)).1 (rows_rd (((RP.out _ kb).tl.tl.atQ hv).below hb)).2)
      have HSG : Hid (okx v.x = true → ∀ W, Below wr.heap.size wr W → Calls Tryz.prog 78 #[.agg #[.bool v.x.p, .slice v.a.A v.x.l.length v.a.c, .slice v.a.D v.x.m.length v.a.d]] W (fun e w' => e = .returned (.int .i64 (sgnO (valx v.x))) ∧ Below W.heap.size W w')) := Lib.hid (fun h W hb => by
        obtain ⟨q, h1, h2, h3⟩ := valx_yes h
        have K := sign_r (some q) v.a W (fitO_some h3) (by rw [← h2]; exact ((RP.out _ kb).tl.tl.atQ hv).below hb)
        rw [← h2, ← h1] at K
        exact K)
      obtain ⟨gc, oc, ea, _, cz⟩ := vi_cell (RP.out _ kb).hd hz
      obtain ⟨gv, ov, eb, _, v0, v1, v2⟩ := (RP.out _ kb).tl.hd.three hv
      have CV : Hid (∀ W, Below wr.heap.size wr W → W.cell? ⟨gv, ov + j * 3, none⟩ = some (.bool v.x.p) ∧ W.cell? ⟨gv, ov + j * 3 + 1, none⟩ = some (.slice v.a.A v.x.l.length v.a.c) ∧ W.cell? ⟨gv, ov + j * 3 + 2, none⟩ = some (.slice v.a.D v.x.m.length v.a.d)) := Lib.hid (fun W hb => ⟨below_cell hb v0, below_cell hb v1, below_cell hb v2⟩)
      rw [ea, eb] at P_e ⊢
      have hj0 : (0 : Int) ≤ (j : Int) := by omega
      have hj1 : (j : Int) < (m : Int) := by omega
      have KB := Lib.hid kb
      have PE := Lib.hid P_e
      have e1 := rblk_cell P_e 1
      clear ea eb hst hx hall hz hv lv kb P_e
      by_cases hlx : z < x
      · have hrf : r = false := HF.out (by simp [hlx])
        subst hrf
        clear HS HF HLS v0 v1 v2
        go_wp2
        go_ret
        exact ⟨rfl, KB.out⟩
      by_cases hnz : (N : Int) ≤ z
      · have hrf : r = false := HF.out (by simp [hnz])
        subst hrf
        clear HS HF HLS v0 v1 v2
        go_wp2
        go_ret
        exact ⟨rfl, KB.out⟩
      rw [decide_eq_true hlx, decide_eq_true hnz, Bool.true_and, Bool.true_and] at HS HF
      have hzx : x ≤ z := by omega
      have hzn : z < (N : Int) := by omega
      cases hok : okx v.x with
      | false =>
        rw [hok] at HOK HF
        have hrf : r = false := HF.out (by rw [Bool.false_and])
        subst hrf
        clear HS HF HLS hok HSG
        go_wp2_with fail
        clear cz v0 v1 v2 e1
        refine (HOK.out _ (Below.refl _ _)).mono ?_
        rintro e w2 ⟨rfl, hb⟩
        go_wp2
        go_ret
        exact ⟨rfl, bt KB.out hb⟩
      | true =>
        rw [hok] at HOK HF HS
        rw [Bool.true_and] at HF HS
        have HSG2 := Lib.hid (HSG.out hok)
        clear HSG hok
        generalize sgnO (valx v.x) = sg at HSG2 HF HS
        have hz1 : IntKind.i64.wrap (z + 1) = z + 1 := by rw [IntKind.wrap_i64]; omega
        by_cases hsg : sg = 0
        · have hrf : r = false := HF.out (by simp [hsg])
          subst hrf
          have qs : (sg == 0) = true := by simp [hsg]
          clear HS HF HLS hsg
          go_wp2_with fail
          clear cz v0 v1 v2 e1
          refine (HOK.out _ (Below.refl _ _)).mono ?_
          rintro e w2 ⟨rfl, hb⟩
          have e1 := rblk_cell (rblk_below PE.out hb) 1
          obtain ⟨v0, v1, v2⟩ := CV.out _ hb
          go_wp2_with fail
          clear e1 v0 v1 v2
          refine (HSG2.out _ hb).mono ?_
          rintro e w3 ⟨rfl, hb3⟩
          go_wp2
          go_ret
          exact ⟨rfl, bt KB.out (bt hb hb3)⟩
        · have HN2 : Hid ((List.range (j + 1)).all (okI N p) = true) := Lib.hid (by rw [HS.out]; simp [hsg])
          have qs : (sg == 0) = false := by simp [hsg]
          clear HS HF hsg
          go_wp2_with fail
          clear cz v0 v1 v2 e1
          refine (HOK.out _ (Below.refl _ _)).mono ?_
          rintro e w2 ⟨rfl, hb⟩
          have e1 := rblk_cell (rblk_below PE.out hb) 1
          obtain ⟨v0, v1, v2⟩ := CV.out _ hb
          go_wp2_with fail
          clear e1 v0 v1 v2
          refine (HSG2.out _ hb).mono ?_
          rintro e w3 ⟨rfl, hb3⟩
          have HK := Lib.hid (And.intro (rblk_below PE.out (bt hb hb3)) (bt KB.out (bt hb hb3)))
          clear hb hb3
          go_wp2
          go_roundw
          case rel => exact ⟨j + 1, z + 1, by omega, by go_num, rfl, HLS.out, HN2.out, HK.out.1, HK.out.2⟩
          case measure => simp [intOf]; omega
    · obtain rfl : j = m := by omega
      have hrt : r = true := HRR.out.trans hall
      subst hrt
      clear hx hall P_e
      go_wp2
      go_ret
      exact ⟨rfl, kb⟩
set_option maxHeartbeats 1000000 in
theorem impl_rowWrong (p : MR) (ga N c : Nat) (A : Option Addr) (w : World) (hN : N ≤ 9223372036854775807) (lp : LenX p) (hA : Rds w (rmx p)) (P_a : w.heap[ga]? = some (.cells #[.slice A N c] 34 (0, 0))) :
    Calls Tryz.prog 55 #[.agg #[.slice p.A p.cs.length p.c, .slice p.B p.V.length p.d], .pointer (some ⟨ga, 0, none⟩)] w (fun e w' => e = .returned (.bool (!rowB N p)) ∧ Below w.heap.size w w') := by
  have HV : Hid (∀ W, Below w.heap.size w W → Calls Tryz.prog 56 #[.agg #[.slice p.A p.cs.length p.c, .slice p.B p.V.length p.d], .int .i64 (N : Int)] W (fun e w' => e = .returned (.bool (rowB N p)) ∧ Below W.heap.size W w')) := Lib.hid (fun W hb => impl_rowValid p N W hN lp (hA.below hb))
  generalize rowB N p = b at HV ⊢
  clear hA lp
  generalize p.cs.length = n1 at *
  generalize p.V.length = n2 at *
  have P_e := heap_alloc_new w (.cells #[.slice p.A n1 p.c, .slice p.B n2 p.d] 71)
  have kb := ba1 w (.cells #[.slice p.A n1 p.c, .slice p.B n2 p.d] 71)
  have P_a2 := rblk_below P_a kb
  have e0 := rblk_cell P_e 0
  have e1 := rblk_cell P_e 1
  have a0 := rblk_cell P_a2 0
  clear P_a P_a2 P_e
  go_enter Tryz.func55, Tryz.ntmps55
  go_wp2_with fail
  clear e0 e1 a0
  refine (HV.out _ kb).mono ?_
  rintro e w2 ⟨rfl, hb⟩
  go_wp2
  go_ret
  exact ⟨rfl, bt kb hb⟩
/-- An index from 0 on. -/
def AtSomeX (w : World) (e : Ending) (w' : World) : Prop := ∃ k : Nat, k ≤ 9223372036854775807 ∧ e = .returned (.int .i64 (k : Int)) ∧ Below w.heap.size w w'
set_option maxHeartbeats 1000000 in
theorem wrong_none (R : List MR) (A A' : Option Addr) (c c' ga N : Nat) (w : World) (hN : N ≤ 9223372036854775807) (hn : R.length ≤ 9223372036854775807) (hL : ∀ p, p ∈ R → LenX p) (hA : RdS w A (flatX R)) (hR : Rds w (lrowX R)) (P_a : w.heap[ga]? = some (.cells #[.slice A' N c'] 34 (0, 0))) (hv : R.all (rowB N) = true) :
    Calls Tryz.prog 79 #[.slice A R.length c, .func (.func 55) #[] #[.pointer (some ⟨ga, 0, none⟩)]] w (fun e w' => e = .returned (.int .i64 (-1)) ∧ Below w.heap.size w w') := by
  have RA : Hid (∀ W, Below w.heap.size w W → RdS W A (flatX R) ∧ Rds W (lrowX R)) := Lib.hid (fun W hb => ⟨hA.below hb, hR.below hb⟩)
  have HV := Lib.hid hv
  have HLL := Lib.hid hL
  have PA := Lib.hid P_a
  obtain ⟨n, hnn⟩ : ∃ n, n = R.length := ⟨_, rfl⟩
  rw [← hnn] at hn ⊢
  have HN := Lib.hid hnn
  clear hnn hA hR hL hv P_a
  go_enter Tryz.func79, Tryz.ntmps79
  go_wp2
  go_loopw [8] (fun k w' => ∃ j : Nat, j ≤ n ∧ k = .int .i64 (j : Int) ∧ (R.take j).all (rowB N) = true ∧ Below w.heap.size w w') (fun k _ => n - (intOf k).toNat)
  case atStart => exact ⟨0, Nat.zero_le _, rfl, rfl, Below.refl _ _⟩
  case round =>
    obtain ⟨j, hj, rfl, hf, kb⟩ := hrel
    by_cases hlt : j < n
    · obtain ⟨p, hp⟩ := getX (L := R) (i := j) (by rw [← HN.out]; exact hlt)
      obtain ⟨g, o, rfl, _, c0, c1⟩ := (RA.out _ kb).1.two hp
      have lp := HLL.out p (List.mem_of_getElem? hp)
      have HC := Lib.hid (impl_rowWrong p ga N c' A' wr hN lp ((RA.out _ kb).2.atX hp) (rblk_below PA.out kb))
      have HT := Lib.hid (allB_take hp hf)
      have HY : Hid (R.all (rowB N) = true → rowB N p = true) := Lib.hid (fun h => allB_at h hp)
      generalize rowB N p = b at HC HT HY
      have hi0 : (0 : Int) ≤ (j : Int) := by omega
      have hi1 : (j : Int) < (n : Int) := by omega
      generalize p.cs.length = n1 at HC c0
      generalize p.V.length = n2 at HC c1
      clear hp lp hf
      go_wp2_with fail
      clear c0 c1
      refine HC.out.mono ?_
      rintro e w2 ⟨rfl, hb⟩
      have k2 := bt kb hb
      clear hb kb
      cases b with
      | false =>
        exact absurd (HY.out HV.out) (by simp)
      | true =>
        go_wp2
        go_roundw
        case rel => exact ⟨j + 1, hlt, by go_num, HT.out, k2⟩
        case measure => simp [intOf]; omega
    · obtain rfl : j = n := by omega
      clear hf
      go_wp2
      go_ret
      exact ⟨rfl, kb⟩
set_option maxHeartbeats 1000000 in
theorem wrong_some (R : List MR) (A A' : Option Addr) (c c' ga N : Nat) (w : World) (hN : N ≤ 9223372036854775807) (hn : R.length ≤ 9223372036854775807) (hL : ∀ p, p ∈ R → LenX p) (hA : RdS w A (flatX R)) (hR : Rds w (lrowX R)) (P_a : w.heap[ga]? = some (.cells #[.slice A' N c'] 34 (0, 0))) (hv : R.all (rowB N) = false) :
    Calls Tryz.prog 79 #[.slice A R.length c, .func (.func 55) #[] #[.pointer (some ⟨ga, 0, none⟩)]] w (AtSomeX w) := by
  have RA : Hid (∀ W, Below w.heap.size w W → RdS W A (flatX R) ∧ Rds W (lrowX R)) := Lib.hid (fun W hb => ⟨hA.below hb, hR.below hb⟩)
  have HV := Lib.hid hv
  have HLL := Lib.hid hL
  have PA := Lib.hid P_a
  obtain ⟨n, hnn⟩ : ∃ n, n = R.length := ⟨_, rfl⟩
  rw [← hnn] at hn ⊢
  have HN := Lib.hid hnn
  clear hnn hA hR hL hv P_a
  go_enter Tryz.func79, Tryz.ntmps79
  go_wp2
  go_loopw [8] (fun k w' => ∃ j : Nat, j ≤ n ∧ k = .int .i64 (j : Int) ∧ (R.take j).all (rowB N) = true ∧ Below w.heap.size w w') (fun k _ => n - (intOf k).toNat)
  case atStart => exact ⟨0, Nat.zero_le _, rfl, rfl, Below.refl _ _⟩
  case round =>
    obtain ⟨j, hj, rfl, hf, kb⟩ := hrel
    by_cases hlt : j < n
    · obtain ⟨p, hp⟩ := getX (L := R) (i := j) (by rw [← HN.out]; exact hlt)
      obtain ⟨g, o, rfl, _, c0, c1⟩ := (RA.out _ kb).1.two hp
      have lp := HLL.out p (List.mem_of_getElem? hp)
      have HC := Lib.hid (impl_rowWrong p ga N c' A' wr hN lp ((RA.out _ kb).2.atX hp) (rblk_below PA.out kb))
      have HT := Lib.hid (allB_take hp hf)
      have HY : Hid (R.all (rowB N) = true → rowB N p = true) := Lib.hid (fun h => allB_at h hp)
      generalize rowB N p = b at HC HT HY
      have hi0 : (0 : Int) ≤ (j : Int) := by omega
      have hi1 : (j : Int) < (n : Int) := by omega
      generalize p.cs.length = n1 at HC c0
      generalize p.V.length = n2 at HC c1
      clear hp lp hf
      go_wp2_with fail
      clear c0 c1
      refine HC.out.mono ?_
      rintro e w2 ⟨rfl, hb⟩
      have k2 := bt kb hb
      clear hb kb
      cases b with
      | false =>
        go_wp2
        go_ret
        exact ⟨j, by omega, rfl, k2⟩
      | true =>
        go_wp2
        go_roundw
        case rel => exact ⟨j + 1, hlt, by go_num, HT.out, k2⟩
        case measure => simp [intOf]; omega
    · obtain rfl : j = n := by omega
      rw [show R.take j = R by rw [HN.out, List.take_length], HV.out] at hf
      cases hf
set_option maxHeartbeats 1000000 in
theorem contains_X (R : List MR) (A A' : Option Addr) (c c' ga N : Nat) (w : World) (hN : N ≤ 9223372036854775807) (hn : R.length ≤ 9223372036854775807) (hL : ∀ p, p ∈ R → LenX p) (hA : RdS w A (flatX R)) (hR : Rds w (lrowX R)) (P_a : w.heap[ga]? = some (.cells #[.slice A' N c'] 34 (0, 0))) :
    Calls Tryz.prog 57 #[.slice A R.length c, .func (.func 55) #[] #[.pointer (some ⟨ga, 0, none⟩)]] w (fun e w' => e = .returned (.bool (!R.all (rowB N))) ∧ Below w.heap.size w w') := by
  cases hv : R.all (rowB N) with
  | true =>
    have HI := Lib.hid (wrong_none R A A' c c' ga N w hN hn hL hA hR P_a hv)
    generalize R.length = n at HI ⊢
    clear hv hn hL hA hR P_a hN
    go_enter Tryz.func57, Tryz.ntmps57
    go_wp2_with fail
    refine HI.out.mono ?_
    rintro e w2 ⟨rfl, hb⟩
    go_wp2
    go_ret
    exact ⟨rfl, hb⟩
  | false =>
    have HI := Lib.hid (wrong_some R A A' c c' ga N w hN hn hL hA hR P_a hv)
    generalize R.length = n at HI ⊢
    unfold AtSomeX at HI
    clear hv hn hL hA hR P_a hN
    go_enter Tryz.func57, Tryz.ntmps57
    go_wp2_with fail
    refine HI.out.mono ?_
    rintro e w2 ⟨k, hk, rfl, hb⟩
    have q : decide ((k : Int) ≥ 0) = true := by simp
    have q2 : decide ((0 : Int) ≤ (k : Int)) = true := by simp
    go_wp2
    go_ret
    exact ⟨by simp, hb⟩
set_option maxHeartbeats 1000000 in
theorem impl_isMatrix (R : List MR) (A : Option Addr) (c : Nat) (w : World) (hn : R.length ≤ 9223372036854775807) (hL : ∀ p, p ∈ R → LenX p) (hA : RdS w A (flatX R)) (hR : Rds w (lrowX R)) :
    Calls Tryz.prog 29 #[.agg #[.slice A R.length c]] w (fun e w' => e = .returned (.bool (isMx R)) ∧ Below w.heap.size w w') := by
  have hmf : ∀ (fn : Fn) (first cap : Array Value) (w : World), (Instr.makeFunc fn first cap).run Tryz.prog w = .ok (.func fn first cap) w := fun _ _ _ _ => rfl
  obtain ⟨n, hnn⟩ : ∃ n, n = R.length := ⟨_, rfl⟩
  obtain ⟨r, hr⟩ : ∃ r, r = isMx R := ⟨_, rfl⟩
  rw [← hr]
  have P_a := heap_alloc_new w (.cells #[.slice A n c] 34)
  have kb := ba1 w (.cells #[.slice A n c] 34)
  have HC := Lib.hid (contains_X R A A c c w.heap.size n (w.alloc (.cells #[.slice A n c] 34)) (by rw [hnn]; exact hn) hn hL (hA.below kb) (hR.below kb) P_a)
  have a0 := rblk_cell P_a 0
  rw [← hnn] at HC hn ⊢
  by_cases h40 : n ≤ 40
  case neg =>
    have hrf : r = false := by rw [hr]; unfold isMx; rw [← hnn, decide_eq_false h40, Bool.false_and]
    subst hrf
    have q : (40 : Int) < (n : Int) := by omega
    have q2 : ¬ (n : Int) ≤ 40 := by omega
    clear hr hnn h40 hA hR hL HC P_a
    go_enter Tryz.func29, Tryz.ntmps29
    go_wp2
    go_ret
    exact ⟨rfl, kb⟩
  have hr2 : r = R.all (rowB n) := by rw [hr]; unfold isMx; rw [← hnn, decide_eq_true h40, Bool.true_and]
  rw [← hr2] at HC
  have q2 : (n : Int) ≤ 40 := by omega
  clear hr hr2 hnn h40 hA hR hL P_a
  go_enter Tryz.func29, Tryz.ntmps29
  go_wp2_with fail
  clear a0
  refine HC.out.mono ?_
  rintro e w2 ⟨rfl, hb⟩
  go_wp2
  go_ret
  exact ⟨by simp, bt kb hb⟩
end Go.Proofs.YtennekieiioilaaGreat
