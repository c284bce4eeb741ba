/-
  Fractions of the model: 'l04Copy', 'RatMin', 'RatMax'.
-/
import Derived.Test.YtaohiacpdljacaaGreatPkI
namespace Go.Proofs.YtaohiacpdljacaaGreat
open Go.ChangeShapes Go.WideShapes Go.ChangeAt Go.RowKit
open Go.ChangeMaps (open_string shut_string)
set_option linter.unusedVariables false
set_option linter.unusedSimpArgs false
set_option maxRecDepth 4000

attribute [local go_sem ↓] Go.wp_at_zero Go.wp_at_succ

theorem new_drew2a (w : World) (o1 o2 : Obj) : ((w.alloc o1).alloc o2).drew.heap[w.heap.size]? = some o1 := (blocks2 w o1 o2).1
theorem new_drew2b (w : World) (o1 o2 : Obj) : ((w.alloc o1).alloc o2).drew.heap[w.heap.size + 1]? = some o2 := (blocks2 w o1 o2).2
theorem keep_e {w w' : World} {g g2 : Nat} {o : Obj} (h : w.heap[g2]? = some o) (hg : w.grownBy w' (some g)) (hne : g2 ≠ g) : w'.heap[g2]? = some o :=
  (hg.block g2 (rblk_lt h) (fun e => hne (by injection e))).trans h

set_option maxHeartbeats 4000000 in
theorem lcopy_any (pr : Bool) (a b : Nat) (A D : Option Addr) (n k c d : Nat) (w : World) (hl : ln a = n) (hm : ln b = k) (hn : n ≤ 1048576) (hk : k ≤ 1048576) (hA : RdS w A (vi (nd a))) (hD : RdS w D (vi (nd b))) :
    Calls Tryz.prog 92 #[.agg #[.bool pr, .slice A n c, .slice D k d]] w (MadeR w.heap.size pr (nd a) (nd b) w) := by
  have RR : Hid (∀ W, Below w.heap.size w W → RdS W A (vi (nd a)) ∧ RdS W D (vi (nd b))) := Lib.hid (fun W hb => ⟨hA.below hb, hD.below hb⟩)
  have HA := Lib.hid (show (nd a).length = n by rw [nd_length]; exact hl)
  have HD := Lib.hid (show (nd b).length = k by rw [nd_length]; exact hm)
  clear hl hm hA hD
  generalize nd a = LA at RR HA ⊢
  generalize nd b = LD at RR HD ⊢
  go_enter Tryz.func92, Tryz.ntmps92
  go_wp2_with fail
  have kb := ba2 w (.cells #[.bool pr, .slice A n c, .slice D k d] 29) (.cells #[.bool false, .slice none 0 0, .slice none 0 0] 29)
  obtain ⟨P_r, P_o⟩ := blocks2 w (.cells #[.bool pr, .slice A n c, .slice D k d] 29) (.cells #[.bool false, .slice none 0 0, .slice none 0 0] 29)
  generalize (w.alloc (.cells #[.bool pr, .slice A n c, .slice D k d] 29)).alloc (.cells #[.bool false, .slice none 0 0, .slice none 0 0] 29) = W1 at kb P_r P_o ⊢
  obtain ⟨rr, hrr⟩ : ∃ r, r = w.heap.size + 1 := ⟨_, rfl⟩
  rw [← hrr] at P_o ⊢
  have hrr3 : w.heap.size ≤ rr := by omega
  have nr_r : rr ≠ w.heap.size := by omega
  clear hrr
  have hlt0 := rblk_lt P_o
  have SB : Hid (∀ w', Keep3 W1 w' rr → (w'.cell? ⟨w.heap.size, 0, none⟩ = some (.bool pr) ∧ w'.cell? ⟨w.heap.size, 1, none⟩ = some (.slice A n c) ∧ w'.cell? ⟨w.heap.size, 2, none⟩ = some (.slice D k d) ∧ Keep3 W1 w' rr)) := Lib.hid (fun w' hK => ⟨rblk_cell (hK.block P_r nr_r) 0, rblk_cell (hK.block P_r nr_r) 1, rblk_cell (hK.block P_r nr_r) 2, hK⟩)
  have KW := Lib.hid kb
  have KST := Keep3.start P_o
  clear kb
  go_region_held3 (fun w' => w'.cell? ⟨w.heap.size, 0, none⟩ = some (.bool pr) ∧ w'.cell? ⟨w.heap.size, 1, none⟩ = some (.slice A n c) ∧ w'.cell? ⟨w.heap.size, 2, none⟩ = some (.slice D k d) ∧ Keep3 W1 w' rr)
    (first | (exact SB.out _ KST.drew) | (exact SB.out _ KST) | (exact SB.out _ (KST.below (ba1 _ _))) | (exact SB.out _ (KST.drew.below (ba1 _ _))) | (go_split_ands; exact SB.out _ (Keep3.below (by assumption : Keep3 W1 _ rr) hb)) | (go_split_ands; exact SB.out _ (Keep3.put3 (by assumption : Keep3 W1 _ rr) _ _ _)) | (go_split_ands; exact SB.out _ (Keep3.below (by assumption : Keep3 W1 _ rr) (ba1 _ _))) | (exact SB.out _ hK5) | (exact SB.out _ hK4) | (exact SB.out _ (hK4.below (ba1 _ _))) | (exact SB.out _ ((KST.below (ba1 _ _)).below (ba1 _ _))) | (exact SB.out _ ((KST.drew.below (ba1 _ _)).below (ba1 _ _))))
    (first | ((go_split_ands; refine step_append_e (by rfl) _ _ (by rfl) _ k d LD D _ (by rfl) (by rfl) (by first | exact hg2 | exact heap_alloc_new _ _) hk HD.out (RR.out _ (Keep3.base (by assumption : Keep3 W1 _ rr) KW.out hrr3)).2 ?_; intro A5 c5 W5 hap; obtain ⟨q1, q2, q3⟩ : OwnS W1.heap.size W5 A4 (vi LA) ∧ OwnS W1.heap.size W5 A5 (vi LD) ∧ Apart LA.length A4 k A5 := (by first | exact app_done p1 (Nat.le_refl _) hg2 hap (by first | exact Nat.le_refl _ | exact Nat.le_succ _) | exact app_done (p1.below (ba1 _ _)) (Nat.le_refl _) (heap_alloc_new _ _) hap hsz4); have hc5 := hap.1; have hK5 : Keep3 W1 W5 rr := (by first | exact Keep3.grown hK4 hap.2.2.1 (by first | exact Nat.le_refl _ | exact Nat.le_succ _) hlt0 | exact Keep3.grown (hK4.below (ba1 _ _)) hap.2.2.1 hsz4 hlt0); obtain ⟨u0, u1, u2, t0, t1, t2, t3, t4, t5⟩ := hK5.cells; clear hap)) | ((go_split_ands; refine step_append_e (by rfl) _ _ (by rfl) _ n c LA A _ (by rfl) (by rfl) (by first | exact heap_alloc_new _ _ | exact new_drew _ _ | exact new_drew2a _ _ _ | exact new_drew2b _ _ _ | exact (blocks2 _ _ _).1 | exact (blocks2 _ _ _).2) hn HA.out (RR.out _ (Keep3.base (by assumption : Keep3 W1 _ rr) KW.out hrr3)).1 ?_; intro A4 c4 W4 hap; have p1 : OwnS W1.heap.size W4 A4 (vi LA) := hap.2.1.more (by first | exact Nat.le_refl _ | exact Nat.le_succ _); have hc4 := hap.1; have hK4 := Keep3.grown (by assumption : Keep3 W1 _ rr) hap.2.2.1 (by first | exact Nat.le_refl _ | exact Nat.le_succ _) hlt0; have hsz4 := hK4.size; (first | (have hg2 := keep_e (new_drew2b _ _ _) hap.2.2.1 (Nat.ne_of_gt (Nat.lt_succ_self _))) | (have hg2 := keep_e (new_drew2a _ _ _) hap.2.2.1 (Nat.ne_of_lt (Nat.lt_succ_self _))) | (have hg2 := keep_e (blocks2 _ _ _).2 hap.2.2.1 (Nat.ne_of_gt (Nat.lt_succ_self _))) | (have hg2 := keep_e (blocks2 _ _ _).1 hap.2.2.1 (Nat.ne_of_lt (Nat.lt_succ_self _))) | skip); clear hap)))
  all_goals
    have hfin := (‹_ ∧ _ ∧ _ ∧ Keep3 W1 _ rr›).2.2.2
    go_wp2
    exact bodyPost_ret (v := .agg #[.bool pr, .slice A4 n c4, .slice A5 k c5]) (by simp [results, Tryz.results92, go_sem, t0, t1, t2]) rfl ⟨A4, c4, A5, c5, by rw [HA.out, HD.out], by rw [HA.out]; exact hc4, by rw [HD.out]; exact hc5, (own_put3 q1 hlt0 _ _ _).more KW.out.size, (own_put3 q2 hlt0 _ _ _).more KW.out.size, by rw [HD.out]; exact q3, hfin.base KW.out hrr3⟩

theorem cmpQ_zero {r s : Rat} (h : cmpQ r s = 0) : r = s := by
  unfold cmpQ at h
  by_cases h1 : r < s
  · rw [if_pos h1] at h; exact absurd h (by decide)
  · rw [if_neg h1] at h
    by_cases h2 : s < r
    · rw [if_pos h2] at h; exact absurd h (by decide)
    · exact Rat.le_antisymm (Rat.not_lt.1 h2) (Rat.not_lt.1 h1)

theorem spec_rmax_q1 (r s : Rat) (h : 0 ≤ cmpQ r s) : maxQ r s = some r := by
  unfold maxQ
  by_cases h0 : 0 < cmpQ r s
  · rw [if_pos h0]
  · rw [if_neg h0, cmpQ_zero (show cmpQ r s = 0 by omega)]
theorem spec_rmax_q2 (r s : Rat) (h : ¬ 0 ≤ cmpQ r s) : maxQ r s = some s := by
  unfold maxQ
  rw [if_neg (by omega)]
set_option maxHeartbeats 1000000 in
theorem spec_rmax_yes (pr ps : Bool) (l m l' m' : List Int) (A D A' D' : Option Addr) (n k n' k' c d c' d' : Nat) (w : World) (hl : l.length = n) (hm : m.length = k) (hl' : l'.length = n') (hm' : m'.length = k')
    (hn : n ≤ 9223372036854775807) (hk : k ≤ 9223372036854775807) (hn' : n' ≤ 9223372036854775807) (hk' : k' ≤ 9223372036854775807)
    (hA : RdS w A (vi l)) (hD : RdS w D (vi m)) (hA' : RdS w A' (vi l')) (hD' : RdS w D' (vi m')) (h1 : okR pr l m = true) (h2 : okR ps l' m' = true) :
    Calls Tryz.prog 45 #[.agg #[.bool pr, .slice A n c, .slice D k d], .agg #[.bool ps, .slice A' n' c', .slice D' k' d']] w (MadeR w.heap.size (qn (binQ maxQ (valQ pr l m) (valQ ps l' m'))) (ql (binQ maxQ (valQ pr l m) (valQ ps l' m'))) (qd (binQ maxQ (valQ pr l m) (valQ ps l' m'))) w) := by
  have H1 := Lib.hid (fun W h h' => spec_rok pr l m A D n c k d W hl hm hn hk h h')
  have H2 := Lib.hid (fun W h h' => spec_rok ps l' m' A' D' n' c' k' d' W hl' hm' hn' hk' h h')
  obtain ⟨r, e1, e2, e3, hr⟩ := okR_q h1
  obtain ⟨s, e4, e5, e6, hs⟩ := okR_q h2
  have hv : binQ maxQ (valQ pr l m) (valQ ps l' m') = maxQ r s := by rw [e1, e2, e3, e4, e5, e6, valQ_yes hr, valQ_yes hs]; rfl
  rw [hv]
  rw [h1] at H1
  rw [h2] at H2
  clear hv h1 h2 hn hk hn' hk'
  subst e1 e2 e3 e4 e5 e6
  have hr1 := hr.1; have hr2 := hr.2; have hs1 := hs.1; have hs2 := hs.2
  have HO := Lib.hid (fun W a b a' b' => lcmpR_any r s A D A' D' n k n' k' c d c' d' W hr hs hl hm hl' hm' a b a' b')
  rw [zm_length] at hl hl'
  rw [nd_length] at hm hm'
  have C1 := Lib.hid (fun W a b => lcopy_any (zn r.num) r.num.natAbs r.den A D n k c d W hl hm (by omega) (by omega) a b)
  have C2 := Lib.hid (fun W a b => lcopy_any (zn s.num) s.num.natAbs s.den A' D' n' k' c' d' W hl' hm' (by omega) (by omega) a b)
  have RR : Hid (∀ W, Below w.heap.size w W → RdS W A (vi (zm r.num)) ∧ RdS W D (vi (nd r.den)) ∧ RdS W A' (vi (zm s.num)) ∧ RdS W D' (vi (nd s.den))) := Lib.hid (fun W hb => ⟨hA.below hb, hD.below hb, hA'.below hb, hD'.below hb⟩)
  clear hl hm hl' hm' hr hs hA hD hA' hD' hr1 hr2 hs1 hs2
  by_cases hc : 0 ≤ cmpQ r s
  · rw [show maxQ r s = some r from spec_rmax_q1 r s hc]
    show Calls _ _ _ _ (MadeR w.heap.size (zn r.num) (zm r.num) (nd r.den) w)
    unfold zm at H1 HO RR H2 ⊢
    generalize cmpQ r s = v at HO hc
    have hc' : 0 ≤ v := hc
    generalize nd r.num.natAbs = La at *
    generalize nd s.num.natAbs = Lb at *
    generalize nd r.den = Da at *
    generalize nd s.den = Db at *
    generalize zn r.num = pr at *
    generalize zn s.num = ps at *
    go_enter Tryz.func45, Tryz.ntmps45
    go_wp2_with fail
    have kb := ba3 w (.cells #[.bool pr, .slice A n c, .slice D k d] 29) (.cells #[.bool ps, .slice A' n' c', .slice D' k' d'] 29) (.cells #[.bool false, .slice none 0 0, .slice none 0 0] 29)
    obtain ⟨P_r, P_s, P_o⟩ := blocks3 w (.cells #[.bool pr, .slice A n c, .slice D k d] 29) (.cells #[.bool ps, .slice A' n' c', .slice D' k' d'] 29) (.cells #[.bool false, .slice none 0 0, .slice none 0 0] 29)
    generalize ((w.alloc (.cells #[.bool pr, .slice A n c, .slice D k d] 29)).alloc (.cells #[.bool ps, .slice A' n' c', .slice D' k' d'] 29)).alloc (.cells #[.bool false, .slice none 0 0, .slice none 0 0] 29) = W1 at kb P_r P_s P_o ⊢
    obtain ⟨rr, hrr⟩ : ∃ r, r = w.heap.size + 1 + 1 := ⟨_, rfl⟩
    rw [← hrr] at P_o ⊢
    have hrr3 : w.heap.size ≤ rr := by omega
    have nr_r : rr ≠ w.heap.size := by omega
    have nr_s : rr ≠ w.heap.size + 1 := by omega
    clear hrr
    refine (H1.out _ (RR.out _ kb).1 (RR.out _ kb).2.1).mono ?_
    rintro e W2 ⟨rfl, hb⟩
    replace P_r := rblk_below P_r hb
    replace P_s := rblk_below P_s hb
    replace P_o := rblk_below P_o hb
    replace kb := bt kb hb
    clear hb
    have c_r0 : W2.cell? ⟨w.heap.size, 0, none⟩ = some (.bool pr) := rblk_cell P_r 0
    have c_r1 : W2.cell? ⟨w.heap.size, 1, none⟩ = some (.slice A n c) := rblk_cell P_r 1
    have c_r2 : W2.cell? ⟨w.heap.size, 2, none⟩ = some (.slice D k d) := rblk_cell P_r 2
    have c_s0 : W2.cell? ⟨w.heap.size + 1, 0, none⟩ = some (.bool ps) := rblk_cell P_s 0
    have c_s1 : W2.cell? ⟨w.heap.size + 1, 1, none⟩ = some (.slice A' n' c') := rblk_cell P_s 1
    have c_s2 : W2.cell? ⟨w.heap.size + 1, 2, none⟩ = some (.slice D' k' d') := rblk_cell P_s 2
    go_wp2_with fail
    clear c_r0 c_r1 c_r2 c_s0 c_s1 c_s2
    refine (H2.out _ (RR.out _ kb).2.2.1 (RR.out _ kb).2.2.2).mono ?_
    rintro e W3 ⟨rfl, hb⟩
    replace P_r := rblk_below P_r hb
    replace P_s := rblk_below P_s hb
    replace P_o := rblk_below P_o hb
    replace kb := bt kb hb
    clear hb
    have c_r0 : W3.cell? ⟨w.heap.size, 0, none⟩ = some (.bool pr) := rblk_cell P_r 0
    have c_r1 : W3.cell? ⟨w.heap.size, 1, none⟩ = some (.slice A n c) := rblk_cell P_r 1
    have c_r2 : W3.cell? ⟨w.heap.size, 2, none⟩ = some (.slice D k d) := rblk_cell P_r 2
    have c_s0 : W3.cell? ⟨w.heap.size + 1, 0, none⟩ = some (.bool ps) := rblk_cell P_s 0
    have c_s1 : W3.cell? ⟨w.heap.size + 1, 1, none⟩ = some (.slice A' n' c') := rblk_cell P_s 1
    have c_s2 : W3.cell? ⟨w.heap.size + 1, 2, none⟩ = some (.slice D' k' d') := rblk_cell P_s 2
    go_wp2_with fail
    clear c_r0 c_r1 c_r2 c_s0 c_s1 c_s2
    refine (HO.out _ (RR.out _ kb).1 (RR.out _ kb).2.1 (RR.out _ kb).2.2.1 (RR.out _ kb).2.2.2).mono ?_
    rintro e W4 ⟨rfl, hb⟩
    replace P_r := rblk_below P_r hb
    replace P_s := rblk_below P_s hb
    replace P_o := rblk_below P_o hb
    replace kb := bt kb hb
    clear hb
    have c_r0 : W4.cell? ⟨w.heap.size, 0, none⟩ = some (.bool pr) := rblk_cell P_r 0
    have c_r1 : W4.cell? ⟨w.heap.size, 1, none⟩ = some (.slice A n c) := rblk_cell P_r 1
    have c_r2 : W4.cell? ⟨w.heap.size, 2, none⟩ = some (.slice D k d) := rblk_cell P_r 2
    have c_s0 : W4.cell? ⟨w.heap.size + 1, 0, none⟩ = some (.bool ps) := rblk_cell P_s 0
    have c_s1 : W4.cell? ⟨w.heap.size + 1, 1, none⟩ = some (.slice A' n' c') := rblk_cell P_s 1
    have c_s2 : W4.cell? ⟨w.heap.size + 1, 2, none⟩ = some (.slice D' k' d') := rblk_cell P_s 2
    go_wp2_with fail
    clear c_r0 c_r1 c_r2 c_s0 c_s1 c_s2
    have hltr := rblk_lt P_o
    refine (C1.out _ (RR.out _ kb).1 (RR.out _ kb).2.1).mono ?_
    rintro e W5 ⟨A3, c3, D3, d3, rfl, hc3, hd3, o3, o4, hap3, hb⟩
    replace P_r := rblk_below P_r hb
    replace P_s := rblk_below P_s hb
    replace P_o := rblk_below P_o hb
    replace kb := bt kb hb
    clear hb
    have c_o0 : W5.cell? ⟨rr, 0, none⟩ = some (.bool false) := rblk_cell P_o 0
    have c_o1 : W5.cell? ⟨rr, 1, none⟩ = some (.slice none 0 0) := rblk_cell P_o 1
    have c_o2 : W5.cell? ⟨rr, 2, none⟩ = some (.slice none 0 0) := rblk_cell P_o 2
    have f_o0 := rblk_free P_o 0
    have f_o1 := rblk_free P_o 1
    have f_o2 := rblk_free P_o 2
    go_wp2
    exact bodyPost_ret (v := .agg #[.bool pr, .slice A3 La.length c3, .slice D3 Da.length d3]) (by simp [results, Tryz.results45, go_sem, c_o0, c_o1, c_o2]) rfl ⟨A3, c3, D3, d3, rfl, hc3, hd3, (own_put3 o3 hltr _ _ _).more (Nat.le_trans hrr3 (Nat.le_of_lt hltr)), (own_put3 o4 hltr _ _ _).more (Nat.le_trans hrr3 (Nat.le_of_lt hltr)), hap3, below_put3 kb hrr3 _ _ _⟩
  · rw [show maxQ r s = some s from spec_rmax_q2 r s hc]
    show Calls _ _ _ _ (MadeR w.heap.size (zn s.num) (zm s.num) (nd s.den) w)
    unfold zm at H1 HO RR H2 ⊢
    generalize cmpQ r s = v at HO hc
    have hc' : ¬ 0 ≤ v := hc
    generalize nd r.num.natAbs = La at *
    generalize nd s.num.natAbs = Lb at *
    generalize nd r.den = Da at *
    generalize nd s.den = Db at *
    generalize zn r.num = pr at *
    generalize zn s.num = ps at *
    go_enter Tryz.func45, Tryz.ntmps45
    go_wp2_with fail
    have kb := ba3 w (.cells #[.bool pr, .slice A n c, .slice D k d] 29) (.cells #[.bool ps, .slice A' n' c', .slice D' k' d'] 29) (.cells #[.bool false, .slice none 0 0, .slice none 0 0] 29)
    obtain ⟨P_r, P_s, P_o⟩ := blocks3 w (.cells #[.bool pr, .slice A n c, .slice D k d] 29) (.cells #[.bool ps, .slice A' n' c', .slice D' k' d'] 29) (.cells #[.bool false, .slice none 0 0, .slice none 0 0] 29)
    generalize ((w.alloc (.cells #[.bool pr, .slice A n c, .slice D k d] 29)).alloc (.cells #[.bool ps, .slice A' n' c', .slice D' k' d'] 29)).alloc (.cells #[.bool false, .slice none 0 0, .slice none 0 0] 29) = W1 at kb P_r P_s P_o ⊢
    obtain ⟨rr, hrr⟩ : ∃ r, r = w.heap.size + 1 + 1 := ⟨_, rfl⟩
    rw [← hrr] at P_o ⊢
    have hrr3 : w.heap.size ≤ rr := by omega
    have nr_r : rr ≠ w.heap.size := by omega
    have nr_s : rr ≠ w.heap.size + 1 := by omega
    clear hrr
    refine (H1.out _ (RR.out _ kb).1 (RR.out _ kb).2.1).mono ?_
    rintro e W2 ⟨rfl, hb⟩
    replace P_r := rblk_below P_r hb
    replace P_s := rblk_below P_s hb
    replace P_o := rblk_below P_o hb
    replace kb := bt kb hb
    clear hb
    have c_r0 : W2.cell? ⟨w.heap.size, 0, none⟩ = some (.bool pr) := rblk_cell P_r 0
    have c_r1 : W2.cell? ⟨w.heap.size, 1, none⟩ = some (.slice A n c) := rblk_cell P_r 1
    have c_r2 : W2.cell? ⟨w.heap.size, 2, none⟩ = some (.slice D k d) := rblk_cell P_r 2
    have c_s0 : W2.cell? ⟨w.heap.size + 1, 0, none⟩ = some (.bool ps) := rblk_cell P_s 0
    have c_s1 : W2.cell? ⟨w.heap.size + 1, 1, none⟩ = some (.slice A' n' c') := rblk_cell P_s 1
    have c_s2 : W2.cell? ⟨w.heap.size + 1, 2, none⟩ = some (.slice D' k' d') := rblk_cell P_s 2
    go_wp2_with fail
    clear c_r0 c_r1 c_r2 c_s0 c_s1 c_s2
    refine (H2.out _ (RR.out _ kb).2.2.1 (RR.out _ kb).2.2.2).mono ?_
    rintro e W3 ⟨rfl, hb⟩
    replace P_r := rblk_below P_r hb
    replace P_s := rblk_below P_s hb
    replace P_o := rblk_below P_o hb
    replace kb := bt kb hb
    clear hb
    have c_r0 : W3.cell? ⟨w.heap.size, 0, none⟩ = some (.bool pr) := rblk_cell P_r 0
    have c_r1 : W3.cell? ⟨w.heap.size, 1, none⟩ = some (.slice A n c) := rblk_cell P_r 1
    have c_r2 : W3.cell? ⟨w.heap.size, 2, none⟩ = some (.slice D k d) := rblk_cell P_r 2
    have c_s0 : W3.cell? ⟨w.heap.size + 1, 0, none⟩ = some (.bool ps) := rblk_cell P_s 0
    have c_s1 : W3.cell? ⟨w.heap.size + 1, 1, none⟩ = some (.slice A' n' c') := rblk_cell P_s 1
    have c_s2 : W3.cell? ⟨w.heap.size + 1, 2, none⟩ = some (.slice D' k' d') := rblk_cell P_s 2
    go_wp2_with fail
    clear c_r0 c_r1 c_r2 c_s0 c_s1 c_s2
    refine (HO.out _ (RR.out _ kb).1 (RR.out _ kb).2.1 (RR.out _ kb).2.2.1 (RR.out _ kb).2.2.2).mono ?_
    rintro e W4 ⟨rfl, hb⟩
    replace P_r := rblk_below P_r hb
    replace P_s := rblk_below P_s hb
    replace P_o := rblk_below P_o hb
    replace kb := bt kb hb
    clear hb
    have c_r0 : W4.cell? ⟨w.heap.size, 0, none⟩ = some (.bool pr) := rblk_cell P_r 0
    have c_r1 : W4.cell? ⟨w.heap.size, 1, none⟩ = some (.slice A n c) := rblk_cell P_r 1
    have c_r2 : W4.cell? ⟨w.heap.size, 2, none⟩ = some (.slice D k d) := rblk_cell P_r 2
    have c_s0 : W4.cell? ⟨w.heap.size + 1, 0, none⟩ = some (.bool ps) := rblk_cell P_s 0
    have c_s1 : W4.cell? ⟨w.heap.size + 1, 1, none⟩ = some (.slice A' n' c') := rblk_cell P_s 1
    have c_s2 : W4.cell? ⟨w.heap.size + 1, 2, none⟩ = some (.slice D' k' d') := rblk_cell P_s 2
    go_wp2_with fail
    clear c_r0 c_r1 c_r2 c_s0 c_s1 c_s2
    have hltr := rblk_lt P_o
    refine (C2.out _ (RR.out _ kb).2.2.1 (RR.out _ kb).2.2.2).mono ?_
    rintro e W5 ⟨A3, c3, D3, d3, rfl, hc3, hd3, o3, o4, hap3, hb⟩
    replace P_r := rblk_below P_r hb
    replace P_s := rblk_below P_s hb
    replace P_o := rblk_below P_o hb
    replace kb := bt kb hb
    clear hb
    have c_o0 : W5.cell? ⟨rr, 0, none⟩ = some (.bool false) := rblk_cell P_o 0
    have c_o1 : W5.cell? ⟨rr, 1, none⟩ = some (.slice none 0 0) := rblk_cell P_o 1
    have c_o2 : W5.cell? ⟨rr, 2, none⟩ = some (.slice none 0 0) := rblk_cell P_o 2
    have f_o0 := rblk_free P_o 0
    have f_o1 := rblk_free P_o 1
    have f_o2 := rblk_free P_o 2
    go_wp2
    exact bodyPost_ret (v := .agg #[.bool ps, .slice A3 Lb.length c3, .slice D3 Db.length d3]) (by simp [results, Tryz.results45, go_sem, c_o0, c_o1, c_o2]) rfl ⟨A3, c3, D3, d3, rfl, hc3, hd3, (own_put3 o3 hltr _ _ _).more (Nat.le_trans hrr3 (Nat.le_of_lt hltr)), (own_put3 o4 hltr _ _ _).more (Nat.le_trans hrr3 (Nat.le_of_lt hltr)), hap3, below_put3 kb hrr3 _ _ _⟩

set_option maxHeartbeats 1000000 in
theorem spec_rmax_n1 (pr ps : Bool) (l m l' m' : List Int) (A D A' D' : Option Addr) (n k n' k' c d c' d' : Nat) (w : World) (hl : l.length = n) (hm : m.length = k) (hl' : l'.length = n') (hm' : m'.length = k')
    (hn : n ≤ 9223372036854775807) (hk : k ≤ 9223372036854775807) (hn' : n' ≤ 9223372036854775807) (hk' : k' ≤ 9223372036854775807)
    (hA : RdS w A (vi l)) (hD : RdS w D (vi m)) (hA' : RdS w A' (vi l')) (hD' : RdS w D' (vi m')) (h1 : okR pr l m = false) :
    Calls Tryz.prog 45 #[.agg #[.bool pr, .slice A n c, .slice D k d], .agg #[.bool ps, .slice A' n' c', .slice D' k' d']] w (MadeR w.heap.size false [] [] w) := by
  have H1 := Lib.hid (fun W h h' => spec_rok pr l m A D n c k d W hl hm hn hk h h')
  have H2 := Lib.hid (fun W h h' => spec_rok ps l' m' A' D' n' c' k' d' W hl' hm' hn' hk' h h')
  rw [h1] at H1
  have RR : Hid (∀ W, Below w.heap.size w W → RdS W A (vi l) ∧ RdS W D (vi m) ∧ RdS W A' (vi l') ∧ RdS W D' (vi m')) := Lib.hid (fun W hb => ⟨hA.below hb, hD.below hb, hA'.below hb, hD'.below hb⟩)
  clear H2 h1 hA hD hA' hD' hl hm hl' hm' hn hk hn' hk'
  go_enter Tryz.func45, Tryz.ntmps45
  go_wp2_with fail
  have kb := ba3 w (.cells #[.bool pr, .slice A n c, .slice D k d] 29) (.cells #[.bool ps, .slice A' n' c', .slice D' k' d'] 29) (.cells #[.bool false, .slice none 0 0, .slice none 0 0] 29)
  obtain ⟨P_r, P_s, P_o⟩ := blocks3 w (.cells #[.bool pr, .slice A n c, .slice D k d] 29) (.cells #[.bool ps, .slice A' n' c', .slice D' k' d'] 29) (.cells #[.bool false, .slice none 0 0, .slice none 0 0] 29)
  generalize ((w.alloc (.cells #[.bool pr, .slice A n c, .slice D k d] 29)).alloc (.cells #[.bool ps, .slice A' n' c', .slice D' k' d'] 29)).alloc (.cells #[.bool false, .slice none 0 0, .slice none 0 0] 29) = W1 at kb P_r P_s P_o ⊢
  obtain ⟨rr, hrr⟩ : ∃ r, r = w.heap.size + 1 + 1 := ⟨_, rfl⟩
  rw [← hrr] at P_o ⊢
  have hrr3 : w.heap.size ≤ rr := by omega
  have nr_r : rr ≠ w.heap.size := by omega
  have nr_s : rr ≠ w.heap.size + 1 := by omega
  clear hrr
  refine (H1.out _ (RR.out _ kb).1 (RR.out _ kb).2.1).mono ?_
  rintro e W2 ⟨rfl, hb⟩
  replace P_r := rblk_below P_r hb
  replace P_s := rblk_below P_s hb
  replace P_o := rblk_below P_o hb
  replace kb := bt kb hb
  clear hb
  have c_r0 : W2.cell? ⟨w.heap.size, 0, none⟩ = some (.bool pr) := rblk_cell P_r 0
  have c_r1 : W2.cell? ⟨w.heap.size, 1, none⟩ = some (.slice A n c) := rblk_cell P_r 1
  have c_r2 : W2.cell? ⟨w.heap.size, 2, none⟩ = some (.slice D k d) := rblk_cell P_r 2
  have c_s0 : W2.cell? ⟨w.heap.size + 1, 0, none⟩ = some (.bool ps) := rblk_cell P_s 0
  have c_s1 : W2.cell? ⟨w.heap.size + 1, 1, none⟩ = some (.slice A' n' c') := rblk_cell P_s 1
  have c_s2 : W2.cell? ⟨w.heap.size + 1, 2, none⟩ = some (.slice D' k' d') := rblk_cell P_s 2
  have c_o0 : W2.cell? ⟨rr, 0, none⟩ = some (.bool false) := rblk_cell P_o 0
  have c_o1 : W2.cell? ⟨rr, 1, none⟩ = some (.slice none 0 0) := rblk_cell P_o 1
  have c_o2 : W2.cell? ⟨rr, 2, none⟩ = some (.slice none 0 0) := rblk_cell P_o 2
  have f_o0 := rblk_free P_o 0
  have f_o1 := rblk_free P_o 1
  have f_o2 := rblk_free P_o 2
  go_wp2
  exact bodyPost_ret (v := .agg #[.bool false, .slice none 0 0, .slice none 0 0]) (by simp [results, Tryz.results45, go_sem, c_o0, c_o1, c_o2]) rfl ⟨none, 0, none, 0, rfl, Nat.le_refl _, Nat.le_refl _, .inl rfl, .inl rfl, (fun a h => by simp [rowOf] at h), below_put3 kb hrr3 _ _ _⟩

set_option maxHeartbeats 1000000 in
theorem spec_rmax_n2 (pr ps : Bool) (l m l' m' : List Int) (A D A' D' : Option Addr) (n k n' k' c d c' d' : Nat) (w : World) (hl : l.length = n) (hm : m.length = k) (hl' : l'.length = n') (hm' : m'.length = k')
    (hn : n ≤ 9223372036854775807) (hk : k ≤ 9223372036854775807) (hn' : n' ≤ 9223372036854775807) (hk' : k' ≤ 9223372036854775807)
    (hA : RdS w A (vi l)) (hD : RdS w D (vi m)) (hA' : RdS w A' (vi l')) (hD' : RdS w D' (vi m')) (h1 : okR pr l m = true) (h2 : okR ps l' m' = false) :
    Calls Tryz.prog 45 #[.agg #[.bool pr, .slice A n c, .slice D k d], .agg #[.bool ps, .slice A' n' c', .slice D' k' d']] w (MadeR w.heap.size false [] [] w) := by
  have H1 := Lib.hid (fun W h h' => spec_rok pr l m A D n c k d W hl hm hn hk h h')
  have H2 := Lib.hid (fun W h h' => spec_rok ps l' m' A' D' n' c' k' d' W hl' hm' hn' hk' h h')
  rw [h1] at H1
  rw [h2] at H2
  have RR : Hid (∀ W, Below w.heap.size w W → RdS W A (vi l) ∧ RdS W D (vi m) ∧ RdS W A' (vi l') ∧ RdS W D' (vi m')) := Lib.hid (fun W hb => ⟨hA.below hb, hD.below hb, hA'.below hb, hD'.below hb⟩)
  clear h1 h2 hA hD hA' hD' hl hm hl' hm' hn hk hn' hk'
  go_enter Tryz.func45, Tryz.ntmps45
  go_wp2_with fail
  have kb := ba3 w (.cells #[.bool pr, .slice A n c, .slice D k d] 29) (.cells #[.bool ps, .slice A' n' c', .slice D' k' d'] 29) (.cells #[.bool false, .slice none 0 0, .slice none 0 0] 29)
  obtain ⟨P_r, P_s, P_o⟩ := blocks3 w (.cells #[.bool pr, .slice A n c, .slice D k d] 29) (.cells #[.bool ps, .slice A' n' c', .slice D' k' d'] 29) (.cells #[.bool false, .slice none 0 0, .slice none 0 0] 29)
  generalize ((w.alloc (.cells #[.bool pr, .slice A n c, .slice D k d] 29)).alloc (.cells #[.bool ps, .slice A' n' c', .slice D' k' d'] 29)).alloc (.cells #[.bool false, .slice none 0 0, .slice none 0 0] 29) = W1 at kb P_r P_s P_o ⊢
  obtain ⟨rr, hrr⟩ : ∃ r, r = w.heap.size + 1 + 1 := ⟨_, rfl⟩
  rw [← hrr] at P_o ⊢
  have hrr3 : w.heap.size ≤ rr := by omega
  have nr_r : rr ≠ w.heap.size := by omega
  have nr_s : rr ≠ w.heap.size + 1 := by omega
  clear hrr
  refine (H1.out _ (RR.out _ kb).1 (RR.out _ kb).2.1).mono ?_
  rintro e W2 ⟨rfl, hb⟩
  replace P_r := rblk_below P_r hb
  replace P_s := rblk_below P_s hb
  replace P_o := rblk_below P_o hb
  replace kb := bt kb hb
  clear hb
  have c_r0 : W2.cell? ⟨w.heap.size, 0, none⟩ = some (.bool pr) := rblk_cell P_r 0
  have c_r1 : W2.cell? ⟨w.heap.size, 1, none⟩ = some (.slice A n c) := rblk_cell P_r 1
  have c_r2 : W2.cell? ⟨w.heap.size, 2, none⟩ = some (.slice D k d) := rblk_cell P_r 2
  have c_s0 : W2.cell? ⟨w.heap.size + 1, 0, none⟩ = some (.bool ps) := rblk_cell P_s 0
  have c_s1 : W2.cell? ⟨w.heap.size + 1, 1, none⟩ = some (.slice A' n' c') := rblk_cell P_s 1
  have c_s2 : W2.cell? ⟨w.heap.size + 1, 2, none⟩ = some (.slice D' k' d') := rblk_cell P_s 2
  go_wp2_with fail
  clear c_r0 c_r1 c_r2 c_s0 c_s1 c_s2
  refine (H2.out _ (RR.out _ kb).2.2.1 (RR.out _ kb).2.2.2).mono ?_
  rintro e W3 ⟨rfl, hb⟩
  replace P_r := rblk_below P_r hb
  replace P_s := rblk_below P_s hb
  replace P_o := rblk_below P_o hb
  replace kb := bt kb hb
  clear hb
  have c_r0 : W3.cell? ⟨w.heap.size, 0, none⟩ = some (.bool pr) := rblk_cell P_r 0
  have c_r1 : W3.cell? ⟨w.heap.size, 1, none⟩ = some (.slice A n c) := rblk_cell P_r 1
  have c_r2 : W3.cell? ⟨w.heap.size, 2, none⟩ = some (.slice D k d) := rblk_cell P_r 2
  have c_s0 : W3.cell? ⟨w.heap.size + 1, 0, none⟩ = some (.bool ps) := rblk_cell P_s 0
  have c_s1 : W3.cell? ⟨w.heap.size + 1, 1, none⟩ = some (.slice A' n' c') := rblk_cell P_s 1
  have c_s2 : W3.cell? ⟨w.heap.size + 1, 2, none⟩ = some (.slice D' k' d') := rblk_cell P_s 2
  have c_o0 : W3.cell? ⟨rr, 0, none⟩ = some (.bool false) := rblk_cell P_o 0
  have c_o1 : W3.cell? ⟨rr, 1, none⟩ = some (.slice none 0 0) := rblk_cell P_o 1
  have c_o2 : W3.cell? ⟨rr, 2, none⟩ = some (.slice none 0 0) := rblk_cell P_o 2
  have f_o0 := rblk_free P_o 0
  have f_o1 := rblk_free P_o 1
  have f_o2 := rblk_free P_o 2
  go_wp2
  exact bodyPost_ret (v := .agg #[.bool false, .slice none 0 0, .slice none 0 0]) (by simp [results, Tryz.results45, go_sem, c_o0, c_o1, c_o2]) rfl ⟨none, 0, none, 0, rfl, Nat.le_refl _, Nat.le_refl _, .inl rfl, .inl rfl, (fun a h => by simp [rowOf] at h), below_put3 kb hrr3 _ _ _⟩

theorem spec_rmax (pr ps : Bool) (l m l' m' : List Int) (A D A' D' : Option Addr) (n k n' k' c d c' d' : Nat) (w : World) (hl : l.length = n) (hm : m.length = k) (hl' : l'.length = n') (hm' : m'.length = k')
    (hn : n ≤ 9223372036854775807) (hk : k ≤ 9223372036854775807) (hn' : n' ≤ 9223372036854775807) (hk' : k' ≤ 9223372036854775807)
    (hA : RdS w A (vi l)) (hD : RdS w D (vi m)) (hA' : RdS w A' (vi l')) (hD' : RdS w D' (vi m')) :
    Calls Tryz.prog 45 #[.agg #[.bool pr, .slice A n c, .slice D k d], .agg #[.bool ps, .slice A' n' c', .slice D' k' d']] w (MadeR w.heap.size (qn (binQ maxQ (valQ pr l m) (valQ ps l' m'))) (ql (binQ maxQ (valQ pr l m) (valQ ps l' m'))) (qd (binQ maxQ (valQ pr l m) (valQ ps l' m'))) w) := by
  by_cases h1 : okR pr l m = true
  · by_cases h2 : okR ps l' m' = true
    · exact spec_rmax_yes pr ps l m l' m' A D A' D' n k n' k' c d c' d' w hl hm hl' hm' hn hk hn' hk' hA hD hA' hD' h1 h2
    · have h2' : okR ps l' m' = false := by simpa using h2
      rw [binQ_no (by rw [h2', Bool.and_false])]
      exact spec_rmax_n2 pr ps l m l' m' A D A' D' n k n' k' c d c' d' w hl hm hl' hm' hn hk hn' hk' hA hD hA' hD' h1 h2'
  · have h1' : okR pr l m = false := by simpa using h1
    rw [binQ_no (by rw [h1', Bool.false_and])]
    exact spec_rmax_n1 pr ps l m l' m' A D A' D' n k n' k' c d c' d' w hl hm hl' hm' hn hk hn' hk' hA hD hA' hD' h1'
end Go.Proofs.YtaohiacpdljacaaGreat


