/-
  Fractions of the model: 'l04Neg', 'l04Add', 'l04Mul', 'RatDiv', 'l04Copy' and what stands on them.
-/
import Derived.Test.YtppdholccpgcpaaGreatWg
import Derived.Test.YtppdholccpgcpaaGreatPkE
import Derived.Deep.DrawnRows
import Derived.Test.YtppdholccpgcpaaGreatPkF
namespace Go.Proofs.YtppdholccpgcpaaGreat
set_option maxHeartbeats 2000000
open Go.ChangeShapes Go.WideShapes Go.ChangeAt Go.RowKit
set_option linter.unusedVariables false
set_option linter.unusedSimpArgs false
set_option maxRecDepth 4000
attribute [local go_sem ↓] Go.wp_at_zero Go.wp_at_succ
theorem zn_neg (z : Int) : ((!(zn z)) && decide (nd z.natAbs ≠ [])) = zn (-z) := by
  unfold zn
  by_cases h : z = 0
  · subst h; rw [show (0 : Int).natAbs = 0 from rfl, nd_zero]; rfl
  · rw [decide_eq_true (nd_pos (by omega)), Bool.and_true]
    by_cases h1 : z < 0
    · rw [decide_eq_true h1, decide_eq_false (by omega)]; rfl
    · rw [decide_eq_false h1, decide_eq_true (by omega)]; rfl
theorem lneg_any (r : Rat) (A D : Option Addr) (n k c d : Nat) (w : World) (hr : Fit r) (hl : (zm r.num).length = n) (hm : (nd r.den).length = k) (hc : n ≤ c) (hA : RdS w A (vi (zm r.num))) (hD : RdS w D (vi (nd r.den))) :
    Calls Tryz.prog 168 #[.agg #[.bool (zn r.num), .slice A n c, .slice D k d]] w (MadeR w.heap.size (zn (-r).num) (zm (-r).num) (nd (-r).den) w) := by
  have hr1 := hr.1; have hr2 := hr.2
  have HM := Lib.hid (fun W h => make_rd (!(zn r.num)) r.num.natAbs n c A W (by rw [← zm_length]; exact hl) (by rw [← hl, zm_length]; omega) hc h)
  rw [cap60_yes' (show ln r.num.natAbs ≤ 60 by omega), zn_neg] at HM
  have RR : Hid (∀ W, Below w.heap.size w W → RdS W A (vi (nd r.num.natAbs)) ∧ RdS W D (vi (nd r.den))) := Lib.hid (fun W hb => ⟨hA.below hb, hD.below hb⟩)
  have hk : k ≤ 1048576 := by rw [← hm, nd_length]; omega
  have HL := Lib.hid hm
  have e1 : zm (-r).num = nd r.num.natAbs := by rw [Rat.neg_num]; unfold zm; rw [Int.natAbs_neg]
  rw [e1, Rat.neg_num, Rat.neg_den]
  clear e1 hr1 hr2 hl hm hc hA hD hr
  generalize zn (-r.num) = sg at HM ⊢
  generalize nd r.num.natAbs = LA at HM RR ⊢
  generalize nd r.den = LD at RR HL ⊢
  generalize zn r.num = pr at HM ⊢
  go_enter Tryz.func168, Tryz.ntmps168
  go_wp2_with fail
  have kb := ba2 w (.cells (g3 pr A n c D k d) 29) (.cells z3 29)
  obtain ⟨P_r, P_o⟩ := blocks2 w (.cells (g3 pr A n c D k d) 29) (.cells z3 29)
  generalize (w.alloc (.cells (g3 pr A n c D k d) 29)).alloc (.cells z3 29) = W1 at kb P_r P_o ⊢
  obtain ⟨rr, hrr⟩ : ∃ r, r = w.heap.size + 1 := ⟨_, rfl⟩
  rw [← hrr] at P_o ⊢
  have hrr3 : w.heap.size ≤ rr := by omega
  have nr_r : rr ≠ w.heap.size := by omega
  clear hrr
  have hlt0 := rblk_lt P_o
  have SB : Hid (∀ w', Keep3 W1 w' rr → (w'.cell? ⟨w.heap.size, 0, none⟩ = some (.bool pr) ∧ w'.cell? ⟨w.heap.size, 1, none⟩ = some (.slice A n c) ∧ w'.cell? ⟨w.heap.size, 2, none⟩ = some (.slice D k d) ∧ Keep3 W1 w' rr)) := Lib.hid (fun w' hK => ⟨rblk_cell (hK.block P_r nr_r) 0, rblk_cell (hK.block P_r nr_r) 1, rblk_cell (hK.block P_r nr_r) 2, hK⟩)
  have KW := Lib.hid kb
  have KST := Keep3.start P_o
  clear kb
  go_region_held3 (fun w' => w'.cell? ⟨w.heap.size, 0, none⟩ = some (.bool pr) ∧ w'.cell? ⟨w.heap.size, 1, none⟩ = some (.slice A n c) ∧ w'.cell? ⟨w.heap.size, 2, none⟩ = some (.slice D k d) ∧ Keep3 W1 w' rr)
    (first | (exact SB.out _ KST.drew) | (exact SB.out _ KST) | (exact SB.out _ (KST.below (ba1 _ _))) | (exact SB.out _ (KST.drew.below (ba1 _ _))) | (go_split_ands; exact SB.out _ (Keep3.below (by assumption : Keep3 W1 _ rr) hb)) | (go_split_ands; exact SB.out _ (Keep3.put3 (by assumption : Keep3 W1 _ rr) _ _ _)) | (go_split_ands; exact SB.out _ (Keep3.below (by assumption : Keep3 W1 _ rr) (ba1 _ _))) | (exact SB.out _ hK4))
    (first | (go_at_call 203; go_split_ands; ((with_reducible refine (HM.out _ (RR.out _ (Keep3.base (by assumption : Keep3 W1 _ rr) KW.out hrr3)).1).mono ?_); rintro e Wn ⟨A3, c3, rfl, hc3, o3, hb⟩; replace o3 := o3.more (Keep3.size (by assumption : Keep3 W1 _ rr)); have hsz := (Keep3.below (by assumption : Keep3 W1 _ rr) hb).size)) | ((go_split_ands; refine step_append_e (by rfl) _ _ (by rfl) _ k d LD D _ (by rfl) (by rfl) (by first | exact heap_alloc_new _ _ | exact rblk_below (new_drew _ _) hb | exact rblk_below (heap_alloc_new _ _) hb) hk HL.out (RR.out _ (Keep3.base (by assumption : Keep3 W1 _ rr) KW.out hrr3)).2 ?_; intro A4 c4 W4 hap; obtain ⟨p1, p2, p3⟩ : OwnS W1.heap.size W4 A3 (vi LA) ∧ OwnS W1.heap.size W4 A4 (vi LD) ∧ Apart LA.length A3 k A4 := (by first | exact app_done (o3.below (ba1 _ _)) (Nat.le_refl _) (heap_alloc_new _ _) hap (by first | exact Nat.le_refl _ | exact hsz) | exact app_done o3 (Nat.le_refl _) (rblk_below (new_drew _ _) hb) hap (by first | exact Nat.le_refl _ | exact hsz)); have hc4 := hap.1; have hK4 := Keep3.grown (by assumption : Keep3 W1 _ rr) hap.2.2.1 (by first | exact Nat.le_refl _ | exact hsz) hlt0; obtain ⟨u0, u1, u2, t0, t1, t2, t3, t4, t5⟩ := hK4.cells; clear hap)))
  all_goals
    have hfin := (‹_ ∧ _ ∧ _ ∧ Keep3 W1 _ rr›).2.2.2
    go_wp2
    exact bodyPost_ret (v := .agg (g3 sg A3 LA.length c3 A4 k c4)) (by simp [results, Tryz.results168, go_sem, t0, t1, t2]) rfl ⟨A3, c3, A4, c4, by rw [HL.out], hc3, by rw [HL.out]; exact hc4, (own_put3 p1 hlt0 _ _ _).more KW.out.size, (own_put3 p2 hlt0 _ _ _).more KW.out.size, by rw [HL.out]; exact p3, hfin.base KW.out hrr3⟩
end Go.Proofs.YtppdholccpgcpaaGreat
namespace Go.Proofs.YtppdholccpgcpaaGreat
set_option maxHeartbeats 2000000
open Go.ChangeShapes Go.WideShapes Go.ChangeAt Go.RowKit
set_option linter.unusedVariables false
set_option linter.unusedSimpArgs false
set_option maxRecDepth 4000
attribute [local go_sem ↓] Go.wp_at_zero Go.wp_at_succ
theorem spec_rsub_yes (pr ps : Bool) (l m l' m' : List Int) (A D A' D' : Option Addr) (n k n' k' c d c' d' : Nat) (w : World) (hl : l.length = n) (hm : m.length = k) (hl' : l'.length = n') (hm' : m'.length = k')
    (hn : n ≤ 9223372036854775807) (hk : k ≤ 9223372036854775807) (hn' : n' ≤ 9223372036854775807) (hk' : k' ≤ 9223372036854775807) (hcn : n ≤ c) (hcd : k ≤ d) (hcn' : n' ≤ c') (hcd' : k' ≤ d')
    (hA : RdS w A (vi l)) (hD : RdS w D (vi m)) (hA' : RdS w A' (vi l')) (hD' : RdS w D' (vi m')) (h1 : okR pr l m = true) (h2 : okR ps l' m' = true) :
    Calls Tryz.prog 102 #[.agg (g3 pr A n c D k d), .agg (g3 ps A' n' c' D' k' d')] w (MadeR w.heap.size (qn (binQ subQ (valQ pr l m) (valQ ps l' m'))) (ql (binQ subQ (valQ pr l m) (valQ ps l' m'))) (qd (binQ subQ (valQ pr l m) (valQ ps l' m'))) w) := by
  have H1 := Lib.hid (fun W h h' => spec_rok pr l m A D n c k d W hl hm hn hk h h')
  have H2 := Lib.hid (fun W h h' => spec_rok ps l' m' A' D' n' c' k' d' W hl' hm' hn' hk' h h')
  obtain ⟨r, e1, e2, e3, hr⟩ := okR_q h1
  obtain ⟨s, e4, e5, e6, hs⟩ := okR_q h2
  have hv : binQ subQ (valQ pr l m) (valQ ps l' m') = subQ r s := by rw [e1, e2, e3, e4, e5, e6, valQ_yes hr, valQ_yes hs]; rfl
  rw [hv]
  rw [h1] at H1
  rw [h2] at H2
  clear hv h1 h2 hn hk hn' hk'
  subst e1 e2 e3 e4 e5 e6
  have N1 := Lib.hid (fun W h h' => lneg_any s A' D' n' k' c' d' W hs hl' hm' hcn' h h')
  have HA := Lib.hid (fun W B c1 B' d1 h h' h2 h3 => laddR_any r (-s) A D B B' n k (zm (-s).num).length (nd (-s).den).length c d c1 d1 W hr (neg_fit hs) hl hm rfl rfl h h' h2 h3)
  rw [show addQ r (-s) = subQ r s by unfold addQ subQ; rw [Rat.sub_eq_add_neg]] at HA
  have RR : Hid (∀ W, Below w.heap.size w W → RdS W A (vi (zm r.num)) ∧ RdS W D (vi (nd r.den)) ∧ RdS W A' (vi (zm s.num)) ∧ RdS W D' (vi (nd s.den))) := Lib.hid (fun W hb => ⟨hA.below hb, hD.below hb, hA'.below hb, hD'.below hb⟩)
  clear hl hm hl' hm' hr hs hA hD hA' hD'
  try unfold zm at H1 H2 RR
  generalize zn (-s).num = sz at N1 HA
  generalize zm (-s).num = SL at N1 HA
  generalize nd (-s).den = SD at N1 HA
  unfold zm at N1 HA
  generalize qn (subQ r s) = sg at HA ⊢
  generalize ql (subQ r s) = L at HA ⊢
  generalize qd (subQ r s) = M at HA ⊢
  generalize nd r.num.natAbs = La at *
  generalize nd s.num.natAbs = Lb at *
  generalize nd r.den = Da at *
  generalize nd s.den = Db at *
  generalize zn r.num = pr at *
  generalize zn s.num = ps at *
  go_enter Tryz.func102, Tryz.ntmps102
  go_wp2_with fail
  have kb := ba3 w (.cells (g3 pr A n c D k d) 29) (.cells (g3 ps A' n' c' D' k' d') 29) (.cells z3 29)
  obtain ⟨P_r, P_s, P_o⟩ := blocks3 w (.cells (g3 pr A n c D k d) 29) (.cells (g3 ps A' n' c' D' k' d') 29) (.cells z3 29)
  generalize ((w.alloc (.cells (g3 pr A n c D k d) 29)).alloc (.cells (g3 ps A' n' c' D' k' d') 29)).alloc (.cells z3 29) = W1 at kb P_r P_s P_o ⊢
  obtain ⟨rr, hrr⟩ : ∃ r, r = w.heap.size + 1 + 1 := ⟨_, rfl⟩
  rw [← hrr] at P_o ⊢
  have hrr3 : w.heap.size ≤ rr := by omega
  have nr_r : rr ≠ w.heap.size := by omega
  have nr_s : rr ≠ w.heap.size + 1 := by omega
  clear hrr
  refine (H1.out _ (RR.out _ kb).1 (RR.out _ kb).2.1).mono ?_
  rintro e W2 ⟨rfl, hb⟩
  replace P_r := rblk_below P_r hb
  replace P_s := rblk_below P_s hb
  replace P_o := rblk_below P_o hb
  replace kb := bt kb hb
  clear hb
  have c_r0 := rblk_cell P_r 0
  have c_r1 := rblk_cell P_r 1
  have c_r2 := rblk_cell P_r 2
  have c_s0 := rblk_cell P_s 0
  have c_s1 := rblk_cell P_s 1
  have c_s2 := rblk_cell P_s 2
  go_wp2_with fail
  clear c_r0 c_r1 c_r2 c_s0 c_s1 c_s2
  refine (H2.out _ (RR.out _ kb).2.2.1 (RR.out _ kb).2.2.2).mono ?_
  rintro e W3 ⟨rfl, hb⟩
  replace P_r := rblk_below P_r hb
  replace P_s := rblk_below P_s hb
  replace P_o := rblk_below P_o hb
  replace kb := bt kb hb
  clear hb
  have c_r0 := rblk_cell P_r 0
  have c_r1 := rblk_cell P_r 1
  have c_r2 := rblk_cell P_r 2
  have c_s0 := rblk_cell P_s 0
  have c_s1 := rblk_cell P_s 1
  have c_s2 := rblk_cell P_s 2
  go_wp2_with fail
  clear c_r0 c_r1 c_r2 c_s0 c_s1 c_s2
  have SB : Hid (∀ w', Keep3 W3 w' rr → (w'.cell? ⟨w.heap.size, 0, none⟩ = some (.bool pr) ∧ w'.cell? ⟨w.heap.size, 1, none⟩ = some (.slice A n c) ∧ w'.cell? ⟨w.heap.size, 2, none⟩ = some (.slice D k d) ∧ w'.cell? ⟨w.heap.size + 1, 0, none⟩ = some (.bool ps) ∧ w'.cell? ⟨w.heap.size + 1, 1, none⟩ = some (.slice A' n' c') ∧ w'.cell? ⟨w.heap.size + 1, 2, none⟩ = some (.slice D' k' d') ∧ Keep3 W3 w' rr)) := Lib.hid (fun w' hK => ⟨rblk_cell (hK.block P_r nr_r) 0, rblk_cell (hK.block P_r nr_r) 1, rblk_cell (hK.block P_r nr_r) 2, rblk_cell (hK.block P_s nr_s) 0, rblk_cell (hK.block P_s nr_s) 1, rblk_cell (hK.block P_s nr_s) 2, hK⟩)
  have KW := Lib.hid kb
  have KST := Keep3.start P_o
  clear kb
  go_region_held3 (fun w' => w'.cell? ⟨w.heap.size, 0, none⟩ = some (.bool pr) ∧ w'.cell? ⟨w.heap.size, 1, none⟩ = some (.slice A n c) ∧ w'.cell? ⟨w.heap.size, 2, none⟩ = some (.slice D k d) ∧ w'.cell? ⟨w.heap.size + 1, 0, none⟩ = some (.bool ps) ∧ w'.cell? ⟨w.heap.size + 1, 1, none⟩ = some (.slice A' n' c') ∧ w'.cell? ⟨w.heap.size + 1, 2, none⟩ = some (.slice D' k' d') ∧ Keep3 W3 w' rr)
    (first | (exact SB.out _ KST.drew) | (exact SB.out _ KST) | (exact SB.out _ (KST.below (ba1 _ _))) | (exact SB.out _ (KST.drew.below (ba1 _ _))) | (go_split_ands; exact SB.out _ (Keep3.below (by assumption : Keep3 W3 _ rr) hb)) | (go_split_ands; exact SB.out _ (Keep3.put3 (by assumption : Keep3 W3 _ rr) _ _ _)) | (go_split_ands; exact SB.out _ (Keep3.below (by assumption : Keep3 W3 _ rr) (ba1 _ _))))
    (first | (go_at_call 168; go_split_ands; ((with_reducible refine (N1.out _ (RR.out _ (Keep3.base (by assumption : Keep3 W3 _ rr) KW.out hrr3)).2.2.1 (RR.out _ (Keep3.base (by assumption : Keep3 W3 _ rr) KW.out hrr3)).2.2.2).mono ?_); rintro e Wn1_0 ⟨A1, c1, D1, d1, rfl, hc1, hd1, o1, o2, hap1, hb⟩; skip)) | (go_at_call 167; go_split_ands; ((with_reducible refine (HA.out _ _ _ _ _ (RR.out _ (Keep3.base (by assumption : Keep3 W3 _ rr) KW.out hrr3)).1 (RR.out _ (Keep3.base (by assumption : Keep3 W3 _ rr) KW.out hrr3)).2.1 o1.rd o2.rd).mono ?_); rintro e Wn1_1 ⟨A3, c3, D3, d3, rfl, hc3, hd3, o3, o4, hap3, hb⟩; have hltr := Keep3.lt (by assumption : Keep3 W3 _ rr); have KL := Keep3.below (by assumption : Keep3 W3 _ rr) hb; obtain ⟨u0, u1, u2, t0, t1, t2, t3, t4, t5⟩ := KL.cells)))
  all_goals
    have hfin := (‹_ ∧ _ ∧ _ ∧ _ ∧ _ ∧ _ ∧ Keep3 W3 _ rr›).2.2.2.2.2.2
    go_wp2
    exact bodyPost_ret (v := .agg (g3 sg A3 L.length c3 D3 M.length d3)) (by simp [results, Tryz.results102, go_sem, t0, t1, t2]) rfl ⟨A3, c3, D3, d3, rfl, hc3, hd3, (own_put3 o3 hltr _ _ _).more (Nat.le_trans hrr3 (Nat.le_of_lt hltr)), (own_put3 o4 hltr _ _ _).more (Nat.le_trans hrr3 (Nat.le_of_lt hltr)), hap3, hfin.base KW.out hrr3⟩
theorem spec_rsub_n1 (pr ps : Bool) (l m l' m' : List Int) (A D A' D' : Option Addr) (n k n' k' c d c' d' : Nat) (w : World) (hl : l.length = n) (hm : m.length = k) (hl' : l'.length = n') (hm' : m'.length = k')
    (hn : n ≤ 9223372036854775807) (hk : k ≤ 9223372036854775807) (hn' : n' ≤ 9223372036854775807) (hk' : k' ≤ 9223372036854775807) (hcn : n ≤ c) (hcd : k ≤ d) (hcn' : n' ≤ c') (hcd' : k' ≤ d')
    (hA : RdS w A (vi l)) (hD : RdS w D (vi m)) (hA' : RdS w A' (vi l')) (hD' : RdS w D' (vi m')) (h1 : okR pr l m = false) :
    Calls Tryz.prog 102 #[.agg (g3 pr A n c D k d), .agg (g3 ps A' n' c' D' k' d')] w (MadeR w.heap.size false [] [] w) := by
  have H1 := Lib.hid (fun W h h' => spec_rok pr l m A D n c k d W hl hm hn hk h h')
  have H2 := Lib.hid (fun W h h' => spec_rok ps l' m' A' D' n' c' k' d' W hl' hm' hn' hk' h h')
  rw [h1] at H1
  have RR : Hid (∀ W, Below w.heap.size w W → RdS W A (vi l) ∧ RdS W D (vi m) ∧ RdS W A' (vi l') ∧ RdS W D' (vi m')) := Lib.hid (fun W hb => ⟨hA.below hb, hD.below hb, hA'.below hb, hD'.below hb⟩)
  clear H2 h1 hA hD hA' hD' hl hm hl' hm' hn hk hn' hk'
  go_enter Tryz.func102, Tryz.ntmps102
  go_wp2_with fail
  have kb := ba3 w (.cells (g3 pr A n c D k d) 29) (.cells (g3 ps A' n' c' D' k' d') 29) (.cells z3 29)
  obtain ⟨P_r, P_s, P_o⟩ := blocks3 w (.cells (g3 pr A n c D k d) 29) (.cells (g3 ps A' n' c' D' k' d') 29) (.cells z3 29)
  generalize ((w.alloc (.cells (g3 pr A n c D k d) 29)).alloc (.cells (g3 ps A' n' c' D' k' d') 29)).alloc (.cells z3 29) = W1 at kb P_r P_s P_o ⊢
  obtain ⟨rr, hrr⟩ : ∃ r, r = w.heap.size + 1 + 1 := ⟨_, rfl⟩
  rw [← hrr] at P_o ⊢
  have hrr3 : w.heap.size ≤ rr := by omega
  have nr_r : rr ≠ w.heap.size := by omega
  have nr_s : rr ≠ w.heap.size + 1 := by omega
  clear hrr
  refine (H1.out _ (RR.out _ kb).1 (RR.out _ kb).2.1).mono ?_
  rintro e W2 ⟨rfl, hb⟩
  replace P_r := rblk_below P_r hb
  replace P_s := rblk_below P_s hb
  replace P_o := rblk_below P_o hb
  replace kb := bt kb hb
  clear hb
  have c_r0 := rblk_cell P_r 0
  have c_r1 := rblk_cell P_r 1
  have c_r2 := rblk_cell P_r 2
  have c_s0 := rblk_cell P_s 0
  have c_s1 := rblk_cell P_s 1
  have c_s2 := rblk_cell P_s 2
  have c_o0 := rblk_cell P_o 0
  have c_o1 := rblk_cell P_o 1
  have c_o2 := rblk_cell P_o 2
  have f_o0 := rblk_free P_o 0
  have f_o1 := rblk_free P_o 1
  have f_o2 := rblk_free P_o 2
  go_wp2
  exact bodyPost_ret (v := .agg z3) (by simp [results, Tryz.results102, go_sem, c_o0, c_o1, c_o2]) rfl ⟨none, 0, none, 0, rfl, Nat.le_refl _, Nat.le_refl _, .inl rfl, .inl rfl, (fun a h => by simp [rowOf] at h), below_put3 kb hrr3 _ _ _⟩
theorem spec_rsub_n2 (pr ps : Bool) (l m l' m' : List Int) (A D A' D' : Option Addr) (n k n' k' c d c' d' : Nat) (w : World) (hl : l.length = n) (hm : m.length = k) (hl' : l'.length = n') (hm' : m'.length = k')
    (hn : n ≤ 9223372036854775807) (hk : k ≤ 9223372036854775807) (hn' : n' ≤ 9223372036854775807) (hk' : k' ≤ 9223372036854775807) (hcn : n ≤ c) (hcd : k ≤ d) (hcn' : n' ≤ c') (hcd' : k' ≤ d')
    (hA : RdS w A (vi l)) (hD : RdS w D (vi m)) (hA' : RdS w A' (vi l')) (hD' : RdS w D' (vi m')) (h1 : okR pr l m = true) (h2 : okR ps l' m' = false) :
    Calls Tryz.prog 102 #[.agg (g3 pr A n c D k d), .agg (g3 ps A' n' c' D' k' d')] w (MadeR w.heap.size false [] [] w) := by
  have H1 := Lib.hid (fun W h h' => spec_rok pr l m A D n c k d W hl hm hn hk h h')
  have H2 := Lib.hid (fun W h h' => spec_rok ps l' m' A' D' n' c' k' d' W hl' hm' hn' hk' h h')
  rw [h1] at H1
  rw [h2] at H2
  have RR : Hid (∀ W, Below w.heap.size w W → RdS W A (vi l) ∧ RdS W D (vi m) ∧ RdS W A' (vi l') ∧ RdS W D' (vi m')) := Lib.hid (fun W hb => ⟨hA.below hb, hD.below hb, hA'.below hb, hD'.below hb⟩)
  clear h1 h2 hA hD hA' hD' hl hm hl' hm' hn hk hn' hk'
  go_enter Tryz.func102, Tryz.ntmps102
  go_wp2_with fail
  have kb := ba3 w (.cells (g3 pr A n c D k d) 29) (.cells (g3 ps A' n' c' D' k' d') 29) (.cells z3 29)
  obtain ⟨P_r, P_s, P_o⟩ := blocks3 w (.cells (g3 pr A n c D k d) 29) (.cells (g3 ps A' n' c' D' k' d') 29) (.cells z3 29)
  generalize ((w.alloc (.cells (g3 pr A n c D k d) 29)).alloc (.cells (g3 ps A' n' c' D' k' d') 29)).alloc (.cells z3 29) = W1 at kb P_r P_s P_o ⊢
  obtain ⟨rr, hrr⟩ : ∃ r, r = w.heap.size + 1 + 1 := ⟨_, rfl⟩
  rw [← hrr] at P_o ⊢
  have hrr3 : w.heap.size ≤ rr := by omega
  have nr_r : rr ≠ w.heap.size := by omega
  have nr_s : rr ≠ w.heap.size + 1 := by omega
  clear hrr
  refine (H1.out _ (RR.out _ kb).1 (RR.out _ kb).2.1).mono ?_
  rintro e W2 ⟨rfl, hb⟩
  replace P_r := rblk_below P_r hb
  replace P_s := rblk_below P_s hb
  replace P_o := rblk_below P_o hb
  replace kb := bt kb hb
  clear hb
  have c_r0 := rblk_cell P_r 0
  have c_r1 := rblk_cell P_r 1
  have c_r2 := rblk_cell P_r 2
  have c_s0 := rblk_cell P_s 0
  have c_s1 := rblk_cell P_s 1
  have c_s2 := rblk_cell P_s 2
  go_wp2_with fail
  clear c_r0 c_r1 c_r2 c_s0 c_s1 c_s2
  refine (H2.out _ (RR.out _ kb).2.2.1 (RR.out _ kb).2.2.2).mono ?_
  rintro e W3 ⟨rfl, hb⟩
  replace P_r := rblk_below P_r hb
  replace P_s := rblk_below P_s hb
  replace P_o := rblk_below P_o hb
  replace kb := bt kb hb
  clear hb
  have c_r0 := rblk_cell P_r 0
  have c_r1 := rblk_cell P_r 1
  have c_r2 := rblk_cell P_r 2
  have c_s0 := rblk_cell P_s 0
  have c_s1 := rblk_cell P_s 1
  have c_s2 := rblk_cell P_s 2
  have c_o0 := rblk_cell P_o 0
  have c_o1 := rblk_cell P_o 1
  have c_o2 := rblk_cell P_o 2
  have f_o0 := rblk_free P_o 0
  have f_o1 := rblk_free P_o 1
  have f_o2 := rblk_free P_o 2
  go_wp2
  exact bodyPost_ret (v := .agg z3) (by simp [results, Tryz.results102, go_sem, c_o0, c_o1, c_o2]) rfl ⟨none, 0, none, 0, rfl, Nat.le_refl _, Nat.le_refl _, .inl rfl, .inl rfl, (fun a h => by simp [rowOf] at h), below_put3 kb hrr3 _ _ _⟩
theorem spec_rsub (pr ps : Bool) (l m l' m' : List Int) (A D A' D' : Option Addr) (n k n' k' c d c' d' : Nat) (w : World) (hl : l.length = n) (hm : m.length = k) (hl' : l'.length = n') (hm' : m'.length = k')
    (hn : n ≤ 9223372036854775807) (hk : k ≤ 9223372036854775807) (hn' : n' ≤ 9223372036854775807) (hk' : k' ≤ 9223372036854775807) (hcn : n ≤ c) (hcd : k ≤ d) (hcn' : n' ≤ c') (hcd' : k' ≤ d')
    (hA : RdS w A (vi l)) (hD : RdS w D (vi m)) (hA' : RdS w A' (vi l')) (hD' : RdS w D' (vi m')) :
    Calls Tryz.prog 102 #[.agg (g3 pr A n c D k d), .agg (g3 ps A' n' c' D' k' d')] w (MadeR w.heap.size (qn (binQ subQ (valQ pr l m) (valQ ps l' m'))) (ql (binQ subQ (valQ pr l m) (valQ ps l' m'))) (qd (binQ subQ (valQ pr l m) (valQ ps l' m'))) w) := by
  by_cases h1 : okR pr l m = true
  · by_cases h2 : okR ps l' m' = true
    · exact spec_rsub_yes pr ps l m l' m' A D A' D' n k n' k' c d c' d' w hl hm hl' hm' hn hk hn' hk' hcn hcd hcn' hcd' hA hD hA' hD' h1 h2
    · have h2' : okR ps l' m' = false := by simpa using h2
      rw [binQ_no (by rw [h2', Bool.and_false])]
      exact spec_rsub_n2 pr ps l m l' m' A D A' D' n k n' k' c d c' d' w hl hm hl' hm' hn hk hn' hk' hcn hcd hcn' hcd' hA hD hA' hD' h1 h2'
  · have h1' : okR pr l m = false := by simpa using h1
    rw [binQ_no (by rw [h1', Bool.false_and])]
    exact spec_rsub_n1 pr ps l m l' m' A D A' D' n k n' k' c d c' d' w hl hm hl' hm' hn hk hn' hk' hcn hcd hcn' hcd' hA hD hA' hD' h1'
end Go.Proofs.YtppdholccpgcpaaGreat
namespace Go.Proofs.YtppdholccpgcpaaGreat
set_option maxHeartbeats 2000000
open Go.ChangeShapes Go.WideShapes Go.ChangeAt Go.RowKit
set_option linter.unusedVariables false
set_option linter.unusedSimpArgs false
set_option maxRecDepth 4000
attribute [local go_sem ↓] Go.wp_at_zero Go.wp_at_succ
end Go.Proofs.YtppdholccpgcpaaGreat
namespace Go.Proofs.YtppdholccpgcpaaGreat
set_option maxHeartbeats 2000000
open Go.ChangeShapes Go.WideShapes Go.ChangeAt Go.RowKit
set_option linter.unusedVariables false
set_option linter.unusedSimpArgs false
set_option maxRecDepth 4000
attribute [local go_sem ↓] Go.wp_at_zero Go.wp_at_succ
def sgnO (x : Option Rat) : Int := match x with
  | some r => cmpZ r.num 0
  | none => 0
theorem srs_no (pr : Bool) (l m : List Int) (A D : Option Addr) (n k c d : Nat) (w : World) (hl : l.length = n) (hm : m.length = k) (hn : n ≤ 9223372036854775807) (hk : k ≤ 9223372036854775807) (hA : RdS w A (vi l)) (hD : RdS w D (vi m)) (h1 : okR pr l m = false) :
    Calls Tryz.prog 162 #[.agg (g3 pr A n c D k d)] w fun e w' => e = .returned (.int .i64 0) ∧ Below w.heap.size w w' := by
  have H1 := Lib.hid (fun W h h' => spec_rok pr l m A D n c k d W hl hm hn hk h h')
  rw [h1] at H1
  have RR : Hid (∀ W, Below w.heap.size w W → RdS W A (vi l) ∧ RdS W D (vi m)) := Lib.hid (fun W hb => ⟨hA.below hb, hD.below hb⟩)
  clear h1 hA hD hl hm hn hk
  go_enter Tryz.func162, Tryz.ntmps162
  go_wp2_with fail
  have kb := ba1 w (.cells (g3 pr A n c D k d) 29)
  have P_r := heap_alloc_new w (.cells (g3 pr A n c D k d) 29)
  generalize w.alloc (.cells (g3 pr A n c D k d) 29) = W1 at kb P_r ⊢
  refine (H1.out _ (RR.out _ kb).1 (RR.out _ kb).2).mono ?_
  rintro e W2 ⟨rfl, hb⟩
  replace P_r := rblk_below P_r hb
  replace kb := bt kb hb
  clear hb
  have c_r0 := rblk_cell P_r 0
  have c_r1 := rblk_cell P_r 1
  have c_r2 := rblk_cell P_r 2
  go_wp2
  go_ret
  exact ⟨rfl, kb⟩
theorem srs_zero (pr : Bool) (l m : List Int) (A D : Option Addr) (k c d : Nat) (w : World) (hl : l.length = 0) (hm : m.length = k) (hk : k ≤ 9223372036854775807) (hA : RdS w A (vi l)) (hD : RdS w D (vi m)) (h1 : okR pr l m = true) :
    Calls Tryz.prog 162 #[.agg (g3 pr A 0 c D k d)] w fun e w' => e = .returned (.int .i64 0) ∧ Below w.heap.size w w' := by
  have H1 := Lib.hid (fun W h h' => spec_rok pr l m A D 0 c k d W hl hm (by omega) hk h h')
  rw [h1] at H1
  have RR : Hid (∀ W, Below w.heap.size w W → RdS W A (vi l) ∧ RdS W D (vi m)) := Lib.hid (fun W hb => ⟨hA.below hb, hD.below hb⟩)
  clear h1 hA hD hl hm hk
  go_enter Tryz.func162, Tryz.ntmps162
  go_wp2_with fail
  have kb := ba1 w (.cells (g3 pr A 0 c D k d) 29)
  have P_r := heap_alloc_new w (.cells (g3 pr A 0 c D k d) 29)
  generalize w.alloc (.cells (g3 pr A 0 c D k d) 29) = W1 at kb P_r ⊢
  refine (H1.out _ (RR.out _ kb).1 (RR.out _ kb).2).mono ?_
  rintro e W2 ⟨rfl, hb⟩
  replace P_r := rblk_below P_r hb
  replace kb := bt kb hb
  clear hb
  have c_r0 := rblk_cell P_r 0
  have c_r1 := rblk_cell P_r 1
  have c_r2 := rblk_cell P_r 2
  go_wp2
  go_ret
  exact ⟨rfl, kb⟩
theorem srs_neg (l m : List Int) (A D : Option Addr) (n k c d : Nat) (w : World) (hl : l.length = n) (hm : m.length = k) (hn : n ≤ 9223372036854775807) (hk : k ≤ 9223372036854775807) (hA : RdS w A (vi l)) (hD : RdS w D (vi m)) (h1 : okR true l m = true) (h0 : 0 < n) :
    Calls Tryz.prog 162 #[.agg (g3 true A n c D k d)] w fun e w' => e = .returned (.int .i64 (-1)) ∧ Below w.heap.size w w' := by
  have H1 := Lib.hid (fun W h h' => spec_rok true l m A D n c k d W hl hm hn hk h h')
  rw [h1] at H1
  have hz : ¬ (n : Int) = 0 := by omega
  have hz' : ((n : Int) == 0) = false := by rw [beq_eq_false_iff_ne]; exact hz
  have RR : Hid (∀ W, Below w.heap.size w W → RdS W A (vi l) ∧ RdS W D (vi m)) := Lib.hid (fun W hb => ⟨hA.below hb, hD.below hb⟩)
  clear h1 hA hD hl hm hn hk
  go_enter Tryz.func162, Tryz.ntmps162
  go_wp2_with fail
  have kb := ba1 w (.cells (g3 true A n c D k d) 29)
  have P_r := heap_alloc_new w (.cells (g3 true A n c D k d) 29)
  generalize w.alloc (.cells (g3 true A n c D k d) 29) = W1 at kb P_r ⊢
  refine (H1.out _ (RR.out _ kb).1 (RR.out _ kb).2).mono ?_
  rintro e W2 ⟨rfl, hb⟩
  replace P_r := rblk_below P_r hb
  replace kb := bt kb hb
  clear hb
  have c_r0 := rblk_cell P_r 0
  have c_r1 := rblk_cell P_r 1
  have c_r2 := rblk_cell P_r 2
  go_wp2
  go_ret
  exact ⟨rfl, kb⟩
theorem srs_pos (l m : List Int) (A D : Option Addr) (n k c d : Nat) (w : World) (hl : l.length = n) (hm : m.length = k) (hn : n ≤ 9223372036854775807) (hk : k ≤ 9223372036854775807) (hA : RdS w A (vi l)) (hD : RdS w D (vi m)) (h1 : okR false l m = true) (h0 : 0 < n) :
    Calls Tryz.prog 162 #[.agg (g3 false A n c D k d)] w fun e w' => e = .returned (.int .i64 1) ∧ Below w.heap.size w w' := by
  have H1 := Lib.hid (fun W h h' => spec_rok false l m A D n c k d W hl hm hn hk h h')
  rw [h1] at H1
  have hz : ¬ (n : Int) = 0 := by omega
  have hz' : ((n : Int) == 0) = false := by rw [beq_eq_false_iff_ne]; exact hz
  have RR : Hid (∀ W, Below w.heap.size w W → RdS W A (vi l) ∧ RdS W D (vi m)) := Lib.hid (fun W hb => ⟨hA.below hb, hD.below hb⟩)
  clear h1 hA hD hl hm hn hk
  go_enter Tryz.func162, Tryz.ntmps162
  go_wp2_with fail
  have kb := ba1 w (.cells (g3 false A n c D k d) 29)
  have P_r := heap_alloc_new w (.cells (g3 false A n c D k d) 29)
  generalize w.alloc (.cells (g3 false A n c D k d) 29) = W1 at kb P_r ⊢
  refine (H1.out _ (RR.out _ kb).1 (RR.out _ kb).2).mono ?_
  rintro e W2 ⟨rfl, hb⟩
  replace P_r := rblk_below P_r hb
  replace kb := bt kb hb
  clear hb
  have c_r0 := rblk_cell P_r 0
  have c_r1 := rblk_cell P_r 1
  have c_r2 := rblk_cell P_r 2
  go_wp2
  go_ret
  exact ⟨rfl, kb⟩
theorem spec_rsign (pr : Bool) (l m : List Int) (A D : Option Addr) (n k c d : Nat) (w : World) (hl : l.length = n) (hm : m.length = k) (hn : n ≤ 9223372036854775807) (hk : k ≤ 9223372036854775807) (hA : RdS w A (vi l)) (hD : RdS w D (vi m)) :
    Calls Tryz.prog 162 #[.agg (g3 pr A n c D k d)] w fun e w' => e = .returned (.int .i64 (sgnO (valQ pr l m))) ∧ Below w.heap.size w w' := by
  by_cases h1 : okR pr l m = true
  · obtain ⟨r, e1, e2, e3, hr⟩ := okR_q h1
    have hv : sgnO (valQ pr l m) = cmpZ r.num 0 := by rw [e1, e2, e3, valQ_yes hr]; rfl
    rw [hv]
    have hln : ln r.num.natAbs = n := by rw [← zm_length, ← e2]; exact hl
    by_cases h0 : n = 0
    · have hz : r.num = 0 := by have := ln_eq_zero.1 (hln.trans h0); omega
      rw [hz]
      subst h0
      exact srs_zero pr l m A D k c d w hl hm hk hA hD h1
    · have hz : r.num ≠ 0 := by rintro e; rw [e] at hln; exact h0 (by rw [← hln]; exact ln_zero)
      by_cases hneg : r.num < 0
      · have ep : pr = true := by rw [e1]; exact decide_eq_true hneg
        subst ep
        rw [show cmpZ r.num 0 = -1 from if_pos hneg]
        exact srs_neg l m A D n k c d w hl hm hn hk hA hD h1 (by omega)
      · have ep : pr = false := by rw [e1]; exact decide_eq_false hneg
        subst ep
        rw [show cmpZ r.num 0 = 1 by unfold cmpZ; rw [if_neg hneg, if_pos (by omega)]]
        exact srs_pos l m A D n k c d w hl hm hn hk hA hD h1 (by omega)
  · have h1' : okR pr l m = false := by simpa using h1
    rw [valQ_no h1']
    exact srs_no pr l m A D n k c d w hl hm hn hk hA hD h1'
end Go.Proofs.YtppdholccpgcpaaGreat
