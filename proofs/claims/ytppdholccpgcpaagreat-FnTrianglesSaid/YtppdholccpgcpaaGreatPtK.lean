/-
  Points of the program: negation and differences that may be none; 'minus', 'cross', 'middle', 'doubleArea'; 'SubtractPoints', 'Cross', 'Middle', 'DoubleArea'.
-/
import Derived.Test.YtppdholccpgcpaaGreatWg
import Derived.Test.YtppdholccpgcpaaGreatLawP
import Derived.Test.YtppdholccpgcpaaGreatPtJ
namespace Go.Proofs.YtppdholccpgcpaaGreat
set_option maxHeartbeats 1000000
open Go.ChangeShapes Go.WideShapes Go.ChangeAt Go.RowKit
set_option linter.unusedVariables false
set_option linter.unusedSimpArgs false
set_option maxRecDepth 4000
attribute [local go_sem ↓] Go.wp_at_zero Go.wp_at_succ
theorem negated_n (A D : Option Addr) (c d : Nat) (w : World) :
    Calls Tryz.prog 206 #[.agg (g3 false A 0 c D 0 d)] w (MadeR w.heap.size false [] [] w) := by
  have HN := Lib.hid (fun W h => impl_bneg (zn 0) (nd (0 : Int).natAbs) A 0 c W (by rw [show (0 : Int).natAbs = 0 from rfl, nd_zero]; rfl) (by omega) h)
  rw [show nd (0 : Int).natAbs = zm 0 from rfl, unZ_yes (by rw [show (0 : Int).natAbs = 0 from rfl, ln_zero]; omega), show czi (-(0 : Int)) = 0 from if_pos (by rw [show (-(0 : Int)).natAbs = 0 from rfl, ln_zero]; omega)] at HN
  unfold MadeZ MadeB at HN
  rw [show zm (0 : Int) = ([] : List Int) by unfold zm; rw [show (0 : Int).natAbs = 0 from rfl, nd_zero], zn_zero] at HN
  have C2 := Lib.hid (fun W h => copy_zero 0 D 0 d W ln_zero (by omega) h)
  rw [nd_zero] at C2
  have RR : Hid (∀ W, Below w.heap.size w W → RdS W A (vi ([] : List Int)) ∧ RdS W D (vi ([] : List Int))) := Lib.hid (fun W hb => ⟨.inl rfl, .inl rfl⟩)
  obtain ⟨LA, hLA⟩ : ∃ l : List Int, l = [] := ⟨_, rfl⟩
  obtain ⟨LD, hLD⟩ : ∃ l : List Int, l = [] := ⟨_, rfl⟩
  obtain ⟨n, hn⟩ : ∃ n : Nat, n = 0 := ⟨_, rfl⟩
  obtain ⟨k, hk⟩ : ∃ n : Nat, n = 0 := ⟨_, rfl⟩
  obtain ⟨pr, hpr⟩ : ∃ p : Bool, p = false := ⟨_, rfl⟩
  obtain ⟨sg, hsg⟩ : ∃ p : Bool, p = false := ⟨_, rfl⟩
  suffices H : Calls Tryz.prog 206 #[.agg (g3 pr A n c D k d)] w (MadeR w.heap.size sg LA LD w) by
    subst hLA hLD hn hk hpr hsg; exact H
  have HN : Hid (∀ W, RdS W A (vi LA) → Calls Tryz.prog 224 #[.agg #[.bool pr, .slice A n c]] W fun e w' => ∃ A c, e = .returned (.agg #[.bool sg, .slice A LA.length c]) ∧ LA.length ≤ c ∧ OwnS W.heap.size w' A (vi LA) ∧ Below W.heap.size W w') := by
    subst hLA hn hpr hsg; exact HN
  have C2 : Hid (∀ W, RdS W D (vi LD) → Calls Tryz.prog 157 #[.slice D k d, .int .i64 0] W (MadeI W.heap.size LD W)) := by
    subst hLD hk; exact C2
  have RR : Hid (∀ W, Below w.heap.size w W → RdS W A (vi LA) ∧ RdS W D (vi LD)) := by subst hLA hLD; exact RR
  clear hLA hLD hn hk hpr hsg
  rename_i HN0 C20 RR0
  clear HN0 C20 RR0
  go_enter Tryz.func206, Tryz.ntmps206
  go_wp2_with fail
  have kb := ba2 w (.cells (g3 pr A n c D k d) 29) (.cells z3 29)
  obtain ⟨P_r, P_o⟩ := blocks2 w (.cells (g3 pr A n c D k d) 29) (.cells z3 29)
  generalize (w.alloc (.cells (g3 pr A n c D k d) 29)).alloc (.cells z3 29) = W1 at kb P_r P_o ⊢
  obtain ⟨rr, hrr⟩ : ∃ r, r = w.heap.size + 1 := ⟨_, rfl⟩
  rw [← hrr] at P_o ⊢
  have hrr3 : w.heap.size ≤ rr := by omega
  have nr_r : rr ≠ w.heap.size := by omega
  clear hrr
  have SB : Hid (∀ w', Keep3 W1 w' rr → (w'.cell? ⟨w.heap.size, 0, none⟩ = some (.bool pr) ∧ w'.cell? ⟨w.heap.size, 1, none⟩ = some (.slice A n c) ∧ w'.cell? ⟨w.heap.size, 2, none⟩ = some (.slice D k d) ∧ Keep3 W1 w' rr)) := Lib.hid (fun w' hK => ⟨rblk_cell (hK.block P_r nr_r) 0, rblk_cell (hK.block P_r nr_r) 1, rblk_cell (hK.block P_r nr_r) 2, hK⟩)
  have KW := Lib.hid kb
  have KST := Keep3.start P_o
  clear kb
  go_region_held3 (fun w' => w'.cell? ⟨w.heap.size, 0, none⟩ = some (.bool pr) ∧ w'.cell? ⟨w.heap.size, 1, none⟩ = some (.slice A n c) ∧ w'.cell? ⟨w.heap.size, 2, none⟩ = some (.slice D k d) ∧ Keep3 W1 w' rr)
    (first | (exact SB.out _ KST.drew) | (exact SB.out _ KST) | (exact SB.out _ (KST.below (ba1 _ _))) | (exact SB.out _ (KST.drew.below (ba1 _ _))) | (go_split_ands; exact SB.out _ (Keep3.below (by assumption : Keep3 W1 _ rr) hb)) | (go_split_ands; exact SB.out _ (Keep3.put3 (by assumption : Keep3 W1 _ rr) _ _ _)) | (go_split_ands; exact SB.out _ (Keep3.below (by assumption : Keep3 W1 _ rr) (ba1 _ _))))
    (first | (go_at_call 224; go_split_ands; ((with_reducible refine (HN.out _ (RR.out _ (Keep3.base (by assumption : Keep3 W1 _ rr) KW.out hrr3)).1).mono ?_); rintro e Wn1_0 ⟨Aa, ca, rfl, hca, oa, hb⟩; have hlta := Keep3.lt (by assumption : Keep3 W1 _ rr))) | (go_at_call 157; go_split_ands; ((with_reducible refine (C2.out _ (RR.out _ (Keep3.base (by assumption : Keep3 W1 _ rr) KW.out hrr3)).2).mono ?_); rintro e Wn1_1 ⟨Ab, cb, rfl, hcb, ob, hb⟩; have hltr := Keep3.lt (by assumption : Keep3 W1 _ rr); have KL := Keep3.below (by assumption : Keep3 W1 _ rr) hb; obtain ⟨u0, u1, u2, t0, t1, t2, t3, t4, t5⟩ := KL.cells; have hap := (oa.inR (vi_length LA)).apart (ob.inR (vi_length LD)) (.inl (Nat.le_refl _)); (first | replace oa := oa.below hb | replace oa := (OwnS.drew' oa).below hb | replace oa := (oa.below (ba1 _ _)).below hb | replace oa := (OwnS.drew' (oa.below (ba1 _ _))).below hb | replace oa := ((OwnS.drew' oa).below (ba1 _ _)).below hb))))
  all_goals
    have hfin := (‹_ ∧ _ ∧ _ ∧ Keep3 W1 _ rr›).2.2.2
    go_wp2
    exact bodyPost_ret (v := .agg (g3 sg Aa LA.length ca Ab LD.length cb)) (by simp [results, Tryz.results206, go_sem, t0, t1, t2]) rfl ⟨Aa, ca, Ab, cb, rfl, hca, hcb, (own_put3 oa hlta _ _ _).more (Nat.le_trans hrr3 (Nat.le_of_lt hlta)), (own_put3 ob hltr _ _ _).more (Nat.le_trans hrr3 (Nat.le_of_lt hltr)), hap, hfin.base KW.out hrr3⟩
def negO : Option Rat → Option Rat
  | none => none
  | some r => some (-r)
theorem negO_fit {x : Option Rat} (h : FitO x) : FitO (negO x) := by
  cases x with
  | none => exact fitO_none
  | some r => exact fitO_some (neg_fit (h r rfl))
theorem add_negO (x y : Option Rat) : binQ addQ x (negO y) = binQ subQ x y := by
  cases x with
  | none => cases y <;> rfl
  | some r =>
    cases y with
    | none => rfl
    | some s => show addQ r (-s) = subQ r s; unfold addQ subQ; rw [Rat.sub_eq_add_neg]
theorem negated_r (y : Option Rat) (b : Ad) (w : World) (hy : FitO y) (h : Rds w (rows (ofO y) b)) :
    Calls Tryz.prog 206 #[.agg (r3 (ofO y) b)] w (MadeQ w.heap.size (ofO (negO y)) w) := by
  cases y with
  | none => exact (negated_n b.A b.D b.c b.d w).mono fun e w' k => MadeR.toQ (x := noR) k
  | some s => exact (negated_q s b.A b.D _ _ b.c b.d w (hy s rfl) (nd_length _).symm (nd_length _).symm (rows_rd h).1 (rows_rd h).2).mono fun e w' k => MadeR.toQ (x := ofO (some (-s))) k
theorem minus_r (x y : Option Rat) (a b : Ad) (w : World) (hx : FitO x) (hy : FitO y) (h : Rds w (rows (ofO x) a)) (h' : Rds w (rows (ofO y) b)) :
    Calls Tryz.prog 179 #[.agg (r3 (ofO x) a), .agg (r3 (ofO y) b)] w (MadeQ w.heap.size (ofO (binQ subQ x y)) w) := by
  have HX := Lib.hid (fun W h => negated_r y b W hy h)
  have HP := Lib.hid (fun a1 W h h' => plus_r x (negO y) a a1 W hx (negO_fit hy) h h')
  rw [add_negO] at HP
  have RR : Hid (∀ W, Below w.heap.size w W → Rds W (rows (ofO x) a) ∧ Rds W (rows (ofO y) b)) := Lib.hid (fun W hb => ⟨h.below hb, h'.below hb⟩)
  clear h h' hx hy
  generalize ofO (binQ subQ x y) = U at HP ⊢
  generalize ofO (negO y) = N1 at HX HP
  generalize ofO x = X at *
  generalize ofO y = Y at *
  go_enter Tryz.func179, Tryz.ntmps179
  go_wp2_with fail
  have kb := ba3 w (.cells (r3 X a) 29) (.cells (r3 Y b) 29) (.cells z3 29)
  obtain ⟨P_r, P_s, P_o⟩ := blocks3 w (.cells (r3 X a) 29) (.cells (r3 Y b) 29) (.cells z3 29)
  generalize ((w.alloc (.cells (r3 X a) 29)).alloc (.cells (r3 Y b) 29)).alloc (.cells z3 29) = W1 at kb P_r P_s P_o ⊢
  obtain ⟨rr, hrr⟩ : ∃ r, r = w.heap.size + 1 + 1 := ⟨_, rfl⟩
  rw [← hrr] at P_o ⊢
  have hrr3 : w.heap.size ≤ rr := by omega
  have nr_r : rr ≠ w.heap.size := by omega
  have nr_s : rr ≠ w.heap.size + 1 := by omega
  clear hrr
  have hlt0 := rblk_lt P_o
  have hle0 := kb.size
  have SB : Hid (∀ w', Keep3 W1 w' rr → (w'.cell? ⟨w.heap.size, 0, none⟩ = some (.bool X.p) ∧ w'.cell? ⟨w.heap.size, 1, none⟩ = some (.slice a.A X.l.length a.c) ∧ w'.cell? ⟨w.heap.size, 2, none⟩ = some (.slice a.D X.m.length a.d) ∧ w'.cell? ⟨w.heap.size + 1, 0, none⟩ = some (.bool Y.p) ∧ w'.cell? ⟨w.heap.size + 1, 1, none⟩ = some (.slice b.A Y.l.length b.c) ∧ w'.cell? ⟨w.heap.size + 1, 2, none⟩ = some (.slice b.D Y.m.length b.d) ∧ Keep3 W1 w' rr)) := Lib.hid (fun w' hK => ⟨rblk_cell (hK.block P_r nr_r) 0, rblk_cell (hK.block P_r nr_r) 1, rblk_cell (hK.block P_r nr_r) 2, rblk_cell (hK.block P_s nr_s) 0, rblk_cell (hK.block P_s nr_s) 1, rblk_cell (hK.block P_s nr_s) 2, hK⟩)
  have KW := Lib.hid kb
  have KST := Keep3.start P_o
  clear kb
  go_region_held3 (fun w' => w'.cell? ⟨w.heap.size, 0, none⟩ = some (.bool X.p) ∧ w'.cell? ⟨w.heap.size, 1, none⟩ = some (.slice a.A X.l.length a.c) ∧ w'.cell? ⟨w.heap.size, 2, none⟩ = some (.slice a.D X.m.length a.d) ∧ w'.cell? ⟨w.heap.size + 1, 0, none⟩ = some (.bool Y.p) ∧ w'.cell? ⟨w.heap.size + 1, 1, none⟩ = some (.slice b.A Y.l.length b.c) ∧ w'.cell? ⟨w.heap.size + 1, 2, none⟩ = some (.slice b.D Y.m.length b.d) ∧ Keep3 W1 w' rr)
    (first | (with_reducible exact SB.out _ KST.drew) | (with_reducible exact SB.out _ KST) | (go_split_ands; with_reducible refine SB.out _ ?_; with_reducible refine Keep3.put3 ?_ _ _ _; with_reducible assumption) | (with_reducible exact SB.out _ (KST.below (ba1 _ _))) | (with_reducible exact SB.out _ (KST.drew.below (ba1 _ _))) | (go_split_ands; with_reducible exact SB.out _ (Keep3.below (by assumption : Keep3 W1 _ rr) hb)) | (go_split_ands; with_reducible exact SB.out _ (Keep3.below (by assumption : Keep3 W1 _ rr) (ba1 _ _))))
    (first | (go_at_call 206; go_split_ands; ((with_reducible refine (HX.out _ (RR.out _ (Keep3.base (by assumption : Keep3 W1 _ rr) KW.out hrr3)).2).mono ?_); rintro e Wn1_0 ⟨a1, rfl, hc1, hc2, o1, hap1, hb⟩; skip)) | (go_at_call 78; go_split_ands; ((with_reducible refine (HP.out _ _ (RR.out _ (Keep3.base (by assumption : Keep3 W1 _ rr) KW.out hrr3)).1 (by first | with_reducible exact o1.rds | with_reducible exact (Owns.drew o1).rds | with_reducible exact (o1.below (ba1 _ _)).rds | with_reducible exact (Owns.drew (o1.below (ba1 _ _))).rds)).mono ?_); rintro e Wn1_1 ⟨a3, rfl, hc5, hc6, o3, hap3, hb⟩; have hz0 := Keep3.size (by assumption : Keep3 W1 _ rr); have KL := Keep3.below (by assumption : Keep3 W1 _ rr) hb; obtain ⟨u0, u1, u2, t0, t1, t2, t3, t4, t5⟩ := KL.cells)))
  all_goals
    have hfin := (‹_ ∧ _ ∧ _ ∧ _ ∧ _ ∧ _ ∧ Keep3 W1 _ rr›).2.2.2.2.2.2
    go_wp2
    exact bodyPost_ret (v := .agg (r3 U a3)) (by simp [results, Tryz.results179, go_sem, t0, t1, t2]) rfl ⟨a3, rfl, hc5, hc6, owns_end3 o3 (.inl (Nat.lt_of_lt_of_le hlt0 hz0)) (Nat.le_trans hle0 hz0) (Nat.le_refl _) _ _ _, hap3, hfin.base KW.out hrr3⟩
theorem minusP_r (px py qx qy : Option Rat) (pa pb qa qb : Ad) (w : World) (fpx : FitO px) (fpy : FitO py) (fqx : FitO qx) (fqy : FitO qy)
    (hp : Rds w (rows (ofO px) pa ++ rows (ofO py) pb)) (hq : Rds w (rows (ofO qx) qa ++ rows (ofO qy) qb)) :
    Calls Tryz.prog 180 #[.agg (r6 (ofO px) (ofO py) pa pb), .agg (r6 (ofO qx) (ofO qy) qa qb)] w (MadeP w.heap.size (ofO (bothX (binQ subQ px qx) (binQ subQ py qy))) (ofO (bothY (binQ subQ px qx) (binQ subQ py qy))) w) := by
  have HX := Lib.hid (fun W h h' => minus_r px qx pa qa W fpx fqx h h')
  have HY := Lib.hid (fun W h h' => minus_r py qy pb qb W fpy fqy h h')
  have HP := Lib.hid (fun lo hi a b W hh hc hO hA => pointOf_any lo hi (binQ subQ px qx) (binQ subQ py qy) a b W (subO_fit _ _) (subO_fit _ _) hh hc hO hA)
  have RR : Hid (∀ W, Below w.heap.size w W → Rds W (rows (ofO px) pa) ∧ Rds W (rows (ofO py) pb) ∧ Rds W (rows (ofO qx) qa) ∧ Rds W (rows (ofO qy) qb)) := Lib.hid (fun W hb => ⟨(rds_l hp).below hb, (rds_r hp).below hb, (rds_l hq).below hb, (rds_r hq).below hb⟩)
  clear fpx fpy fqx fqy hp hq
  generalize ofO (bothX (binQ subQ px qx) (binQ subQ py qy)) = U at HP ⊢
  generalize ofO (bothY (binQ subQ px qx) (binQ subQ py qy)) = V at HP ⊢
  generalize ofO (binQ subQ px qx) = x1 at HX HP
  generalize ofO (binQ subQ py qy) = y1 at HY HP
  generalize ofO px = pX at *
  generalize ofO py = pY at *
  generalize ofO qx = qX at *
  generalize ofO qy = qY at *
  go_enter Tryz.func180, Tryz.ntmps180
  go_wp2_with fail
  have kb := ba3 w (.cells (r6 pX pY pa pb) 31) (.cells (r6 qX qY qa qb) 31) (.cells z6 31)
  obtain ⟨P_p, P_q, P_o⟩ := blocks3 w (.cells (r6 pX pY pa pb) 31) (.cells (r6 qX qY qa qb) 31) (.cells z6 31)
  generalize ((w.alloc (.cells (r6 pX pY pa pb) 31)).alloc (.cells (r6 qX qY qa qb) 31)).alloc (.cells z6 31) = W1 at kb P_p P_q P_o ⊢
  obtain ⟨rr, hrr⟩ : ∃ r, r = w.heap.size + 1 + 1 := ⟨_, rfl⟩
  rw [← hrr] at P_o ⊢
  have hrr3 : w.heap.size ≤ rr := by omega
  have nr_p : rr ≠ w.heap.size := by omega
  have nr_q : rr ≠ w.heap.size + 1 := by omega
  clear hrr
  have hlt0 := rblk_lt P_o
  have hle0 := kb.size
  have SB : Hid (∀ w', Keep6 W1 w' rr → (w'.cell? ⟨w.heap.size, 0, none⟩ = some (.bool pX.p) ∧ w'.cell? ⟨w.heap.size, 1, none⟩ = some (.slice pa.A pX.l.length pa.c) ∧ w'.cell? ⟨w.heap.size, 2, none⟩ = some (.slice pa.D pX.m.length pa.d) ∧ w'.cell? ⟨w.heap.size, 3, none⟩ = some (.bool pY.p) ∧ w'.cell? ⟨w.heap.size, 4, none⟩ = some (.slice pb.A pY.l.length pb.c) ∧ w'.cell? ⟨w.heap.size, 5, none⟩ = some (.slice pb.D pY.m.length pb.d) ∧ w'.cell? ⟨w.heap.size + 1, 0, none⟩ = some (.bool qX.p) ∧ w'.cell? ⟨w.heap.size + 1, 1, none⟩ = some (.slice qa.A qX.l.length qa.c) ∧ w'.cell? ⟨w.heap.size + 1, 2, none⟩ = some (.slice qa.D qX.m.length qa.d) ∧ w'.cell? ⟨w.heap.size + 1, 3, none⟩ = some (.bool qY.p) ∧ w'.cell? ⟨w.heap.size + 1, 4, none⟩ = some (.slice qb.A qY.l.length qb.c) ∧ w'.cell? ⟨w.heap.size + 1, 5, none⟩ = some (.slice qb.D qY.m.length qb.d) ∧ Keep6 W1 w' rr)) := Lib.hid (fun w' hK => ⟨rblk_cell (hK.block P_p nr_p) 0, rblk_cell (hK.block P_p nr_p) 1, rblk_cell (hK.block P_p nr_p) 2, rblk_cell (hK.block P_p nr_p) 3, rblk_cell (hK.block P_p nr_p) 4, rblk_cell (hK.block P_p nr_p) 5, rblk_cell (hK.block P_q nr_q) 0, rblk_cell (hK.block P_q nr_q) 1, rblk_cell (hK.block P_q nr_q) 2, rblk_cell (hK.block P_q nr_q) 3, rblk_cell (hK.block P_q nr_q) 4, rblk_cell (hK.block P_q nr_q) 5, hK⟩)
  have KW := Lib.hid kb
  have KST := Keep6.start P_o
  clear kb
  go_region_held3 (fun w' => w'.cell? ⟨w.heap.size, 0, none⟩ = some (.bool pX.p) ∧ w'.cell? ⟨w.heap.size, 1, none⟩ = some (.slice pa.A pX.l.length pa.c) ∧ w'.cell? ⟨w.heap.size, 2, none⟩ = some (.slice pa.D pX.m.length pa.d) ∧ w'.cell? ⟨w.heap.size, 3, none⟩ = some (.bool pY.p) ∧ w'.cell? ⟨w.heap.size, 4, none⟩ = some (.slice pb.A pY.l.length pb.c) ∧ w'.cell? ⟨w.heap.size, 5, none⟩ = some (.slice pb.D pY.m.length pb.d) ∧ w'.cell? ⟨w.heap.size + 1, 0, none⟩ = some (.bool qX.p) ∧ w'.cell? ⟨w.heap.size + 1, 1, none⟩ = some (.slice qa.A qX.l.length qa.c) ∧ w'.cell? ⟨w.heap.size + 1, 2, none⟩ = some (.slice qa.D qX.m.length qa.d) ∧ w'.cell? ⟨w.heap.size + 1, 3, none⟩ = some (.bool qY.p) ∧ w'.cell? ⟨w.heap.size + 1, 4, none⟩ = some (.slice qb.A qY.l.length qb.c) ∧ w'.cell? ⟨w.heap.size + 1, 5, none⟩ = some (.slice qb.D qY.m.length qb.d) ∧ Keep6 W1 w' rr)
    (first | (with_reducible exact SB.out _ KST.drew) | (with_reducible exact SB.out _ KST) | (go_split_ands; with_reducible refine SB.out _ ?_; with_reducible refine Keep6.put6 ?_ _ _ _ _ _ _; with_reducible assumption) | (with_reducible exact SB.out _ (KST.below (ba1 _ _))) | (with_reducible exact SB.out _ (KST.drew.below (ba1 _ _))) | (go_split_ands; with_reducible exact SB.out _ (Keep6.below (by assumption : Keep6 W1 _ rr) hb)) | (go_split_ands; with_reducible exact SB.out _ (Keep6.below (by assumption : Keep6 W1 _ rr) (ba1 _ _))))
    (first | (go_at_call 179; go_split_ands; ((with_reducible refine (HX.out _ (RR.out _ (Keep6.base (by assumption : Keep6 W1 _ rr) KW.out hrr3)).1 (RR.out _ (Keep6.base (by assumption : Keep6 W1 _ rr) KW.out hrr3)).2.2.1).mono ?_); rintro e Wn1_0 ⟨a1, rfl, hc1, hc2, o1, hap1, hb⟩; have hz1 := hb.size)) | (go_at_call 179; go_split_ands; ((with_reducible refine (HY.out _ (RR.out _ (Keep6.base (by assumption : Keep6 W1 _ rr) KW.out hrr3)).2.1 (RR.out _ (Keep6.base (by assumption : Keep6 W1 _ rr) KW.out hrr3)).2.2.2).mono ?_); rintro e Wn1_1 ⟨b1, rfl, hc3, hc4, o2, hap2, hb⟩; have hz2 := hb.size; (first | (with_reducible replace o1 := o1.below hb) | (with_reducible replace o1 := (Owns.drew o1).below hb) | (with_reducible replace o1 := (o1.below (ba1 _ _)).below hb) | (with_reducible replace o1 := (Owns.drew (o1.below (ba1 _ _))).below hb)))) | (go_at_call 139; go_split_ands; ((with_reducible refine (HP.out _ _ _ _ _ (Nat.le_refl _) ⟨hc1, hc2, hc3, hc4⟩ (Owns.app (o1.wide (Nat.le_refl _) hz2) (o2.wide hz1 (Nat.le_refl _))) (Aparts.app hap1 hap2 o1 o2)).mono ?_); rintro e Wn1_2 ⟨a3, b3, rfl, hcs, o3, hap3, hb⟩; have KL := Keep6.below (by assumption : Keep6 W1 _ rr) hb; obtain ⟨u0, u1, u2, u3, u4, u5, t0, t1, t2, t3, t4, t5, t6, t7, t8, t9, t10, t11⟩ := KL.cells)))
  all_goals
    have hfin := (‹_ ∧ _ ∧ _ ∧ _ ∧ _ ∧ _ ∧ _ ∧ _ ∧ _ ∧ _ ∧ _ ∧ _ ∧ Keep6 W1 _ rr›).2.2.2.2.2.2.2.2.2.2.2.2
    go_wp2
    exact bodyPost_ret (v := .agg (r6 U V a3 b3)) (by simp [results, Tryz.results180, go_sem, t0, t1, t2, t3, t4, t5]) rfl ⟨a3, b3, rfl, hcs, owns_end6 o3 (.inl hlt0) hle0 (Nat.le_refl _) _ _ _ _ _ _, hap3, hfin.base KW.out hrr3⟩
theorem crossP_r (px py qx qy : Option Rat) (pa pb qa qb : Ad) (w : World) (fpx : FitO px) (fpy : FitO py) (fqx : FitO qx) (fqy : FitO qy)
    (hp : Rds w (rows (ofO px) pa ++ rows (ofO py) pb)) (hq : Rds w (rows (ofO qx) qa ++ rows (ofO qy) qb)) :
    Calls Tryz.prog 181 #[.agg (r6 (ofO px) (ofO py) pa pb), .agg (r6 (ofO qx) (ofO qy) qa qb)] w (MadeQ w.heap.size (ofO (binQ subQ (binQ mulQ px qy) (binQ mulQ py qx))) w) := by
  have HX := Lib.hid (fun W h h' => times_r px qy pa qb W fpx fqy h h')
  have HY := Lib.hid (fun W h h' => times_r py qx pb qa W fpy fqx h h')
  have HP := Lib.hid (fun a b W h h' => minus_r (binQ mulQ px qy) (binQ mulQ py qx) a b W (mulO_fit _ _) (mulO_fit _ _) h h')
  have RR : Hid (∀ W, Below w.heap.size w W → Rds W (rows (ofO px) pa) ∧ Rds W (rows (ofO py) pb) ∧ Rds W (rows (ofO qx) qa) ∧ Rds W (rows (ofO qy) qb)) := Lib.hid (fun W hb => ⟨(rds_l hp).below hb, (rds_r hp).below hb, (rds_l hq).below hb, (rds_r hq).below hb⟩)
  clear fpx fpy fqx fqy hp hq
  generalize ofO (binQ subQ (binQ mulQ px qy) (binQ mulQ py qx)) = U at HP ⊢
  generalize ofO (binQ mulQ px qy) = x1 at HX HP
  generalize ofO (binQ mulQ py qx) = y1 at HY HP
  generalize ofO px = pX at *
  generalize ofO py = pY at *
  generalize ofO qx = qX at *
  generalize ofO qy = qY at *
  go_enter Tryz.func181, Tryz.ntmps181
  go_wp2_with fail
  have kb := ba3 w (.cells (r6 pX pY pa pb) 31) (.cells (r6 qX qY qa qb) 31) (.cells z3 29)
  obtain ⟨P_p, P_q, P_o⟩ := blocks3 w (.cells (r6 pX pY pa pb) 31) (.cells (r6 qX qY qa qb) 31) (.cells z3 29)
  generalize ((w.alloc (.cells (r6 pX pY pa pb) 31)).alloc (.cells (r6 qX qY qa qb) 31)).alloc (.cells z3 29) = W1 at kb P_p P_q P_o ⊢
  obtain ⟨rr, hrr⟩ : ∃ r, r = w.heap.size + 1 + 1 := ⟨_, rfl⟩
  rw [← hrr] at P_o ⊢
  have hrr3 : w.heap.size ≤ rr := by omega
  have nr_p : rr ≠ w.heap.size := by omega
  have nr_q : rr ≠ w.heap.size + 1 := by omega
  clear hrr
  have hlt0 := rblk_lt P_o
  have hle0 := kb.size
  have SB : Hid (∀ w', Keep3 W1 w' rr → (w'.cell? ⟨w.heap.size, 0, none⟩ = some (.bool pX.p) ∧ w'.cell? ⟨w.heap.size, 1, none⟩ = some (.slice pa.A pX.l.length pa.c) ∧ w'.cell? ⟨w.heap.size, 2, none⟩ = some (.slice pa.D pX.m.length pa.d) ∧ w'.cell? ⟨w.heap.size, 3, none⟩ = some (.bool pY.p) ∧ w'.cell? ⟨w.heap.size, 4, none⟩ = some (.slice pb.A pY.l.length pb.c) ∧ w'.cell? ⟨w.heap.size, 5, none⟩ = some (.slice pb.D pY.m.length pb.d) ∧ w'.cell? ⟨w.heap.size + 1, 0, none⟩ = some (.bool qX.p) ∧ w'.cell? ⟨w.heap.size + 1, 1, none⟩ = some (.slice qa.A qX.l.length qa.c) ∧ w'.cell? ⟨w.heap.size + 1, 2, none⟩ = some (.slice qa.D qX.m.length qa.d) ∧ w'.cell? ⟨w.heap.size + 1, 3, none⟩ = some (.bool qY.p) ∧ w'.cell? ⟨w.heap.size + 1, 4, none⟩ = some (.slice qb.A qY.l.length qb.c) ∧ w'.cell? ⟨w.heap.size + 1, 5, none⟩ = some (.slice qb.D qY.m.length qb.d) ∧ Keep3 W1 w' rr)) := Lib.hid (fun w' hK => ⟨rblk_cell (hK.block P_p nr_p) 0, rblk_cell (hK.block P_p nr_p) 1, rblk_cell (hK.block P_p nr_p) 2, rblk_cell (hK.block P_p nr_p) 3, rblk_cell (hK.block P_p nr_p) 4, rblk_cell (hK.block P_p nr_p) 5, rblk_cell (hK.block P_q nr_q) 0, rblk_cell (hK.block P_q nr_q) 1, rblk_cell (hK.block P_q nr_q) 2, rblk_cell (hK.block P_q nr_q) 3, rblk_cell (hK.block P_q nr_q) 4, rblk_cell (hK.block P_q nr_q) 5, hK⟩)
  have KW := Lib.hid kb
  have KST := Keep3.start P_o
  clear kb
  go_region_held3 (fun w' => w'.cell? ⟨w.heap.size, 0, none⟩ = some (.bool pX.p) ∧ w'.cell? ⟨w.heap.size, 1, none⟩ = some (.slice pa.A pX.l.length pa.c) ∧ w'.cell? ⟨w.heap.size, 2, none⟩ = some (.slice pa.D pX.m.length pa.d) ∧ w'.cell? ⟨w.heap.size, 3, none⟩ = some (.bool pY.p) ∧ w'.cell? ⟨w.heap.size, 4, none⟩ = some (.slice pb.A pY.l.length pb.c) ∧ w'.cell? ⟨w.heap.size, 5, none⟩ = some (.slice pb.D pY.m.length pb.d) ∧ w'.cell? ⟨w.heap.size + 1, 0, none⟩ = some (.bool qX.p) ∧ w'.cell? ⟨w.heap.size + 1, 1, none⟩ = some (.slice qa.A qX.l.length qa.c) ∧ w'.cell? ⟨w.heap.size + 1, 2, none⟩ = some (.slice qa.D qX.m.length qa.d) ∧ w'.cell? ⟨w.heap.size + 1, 3, none⟩ = some (.bool qY.p) ∧ w'.cell? ⟨w.heap.size + 1, 4, none⟩ = some (.slice qb.A qY.l.length qb.c) ∧ w'.cell? ⟨w.heap.size + 1, 5, none⟩ = some (.slice qb.D qY.m.length qb.d) ∧ Keep3 W1 w' rr)
    (first | (with_reducible exact SB.out _ KST.drew) | (with_reducible exact SB.out _ KST) | (go_split_ands; with_reducible refine SB.out _ ?_; with_reducible refine Keep3.put3 ?_ _ _ _; with_reducible assumption) | (with_reducible exact SB.out _ (KST.below (ba1 _ _))) | (with_reducible exact SB.out _ (KST.drew.below (ba1 _ _))) | (go_split_ands; with_reducible exact SB.out _ (Keep3.below (by assumption : Keep3 W1 _ rr) hb)) | (go_split_ands; with_reducible exact SB.out _ (Keep3.below (by assumption : Keep3 W1 _ rr) (ba1 _ _))))
    (first | (go_at_call 140; go_split_ands; ((with_reducible refine (HX.out _ (RR.out _ (Keep3.base (by assumption : Keep3 W1 _ rr) KW.out hrr3)).1 (RR.out _ (Keep3.base (by assumption : Keep3 W1 _ rr) KW.out hrr3)).2.2.2).mono ?_); rintro e Wn1_0 ⟨a1, rfl, hc1, hc2, o1, hap1, hb⟩; have hz1 := hb.size)) | (go_at_call 140; go_split_ands; ((with_reducible refine (HY.out _ (RR.out _ (Keep3.base (by assumption : Keep3 W1 _ rr) KW.out hrr3)).2.1 (RR.out _ (Keep3.base (by assumption : Keep3 W1 _ rr) KW.out hrr3)).2.2.1).mono ?_); rintro e Wn1_1 ⟨b1, rfl, hc3, hc4, o2, hap2, hb⟩; have hz2 := hb.size; (first | (with_reducible replace o1 := o1.below hb) | (with_reducible replace o1 := (Owns.drew o1).below hb) | (with_reducible replace o1 := (o1.below (ba1 _ _)).below hb) | (with_reducible replace o1 := (Owns.drew (o1.below (ba1 _ _))).below hb)))) | (go_at_call 179; go_split_ands; ((with_reducible refine (HP.out _ _ _ (by first | with_reducible exact o1.rds | with_reducible exact (Owns.drew o1).rds | with_reducible exact (o1.below (ba1 _ _)).rds | with_reducible exact (Owns.drew (o1.below (ba1 _ _))).rds) (by first | with_reducible exact o2.rds | with_reducible exact (Owns.drew o2).rds | with_reducible exact (o2.below (ba1 _ _)).rds | with_reducible exact (Owns.drew (o2.below (ba1 _ _))).rds)).mono ?_); rintro e Wn1_2 ⟨a3, rfl, hc5, hc6, o3, hap3, hb⟩; have hz0 := Keep3.size (by assumption : Keep3 W1 _ rr); have KL := Keep3.below (by assumption : Keep3 W1 _ rr) hb; obtain ⟨u0, u1, u2, t0, t1, t2, t3, t4, t5⟩ := KL.cells)))
  all_goals
    have hfin := (‹_ ∧ _ ∧ _ ∧ _ ∧ _ ∧ _ ∧ _ ∧ _ ∧ _ ∧ _ ∧ _ ∧ _ ∧ Keep3 W1 _ rr›).2.2.2.2.2.2.2.2.2.2.2.2
    go_wp2
    exact bodyPost_ret (v := .agg (r3 U a3)) (by simp [results, Tryz.results181, go_sem, t0, t1, t2]) rfl ⟨a3, rfl, hc5, hc6, owns_end3 o3 (.inl (Nat.lt_of_lt_of_le hlt0 hz0)) (Nat.le_trans hle0 hz0) (Nat.le_refl _) _ _ _, hap3, hfin.base KW.out hrr3⟩
theorem midP_r (px py qx qy : Option Rat) (pa pb qa qb : Ad) (w : World) (fpx : FitO px) (fpy : FitO py) (fqx : FitO qx) (fqy : FitO qy) (hp : Rds w (rows (ofO px) pa ++ rows (ofO py) pb)) (hq : Rds w (rows (ofO qx) qa ++ rows (ofO qy) qb)) :
    Calls Tryz.prog 83 #[.agg (r6 (ofO px) (ofO py) pa pb), .agg (r6 (ofO qx) (ofO qy) qa qb)] w (MadeP w.heap.size (ofO (bothX (binQ mulQ (ofQ 1 2) (bothX (binQ addQ px qx) (binQ addQ py qy))) (binQ mulQ (ofQ 1 2) (bothY (binQ addQ px qx) (binQ addQ py qy))))) (ofO (bothY (binQ mulQ (ofQ 1 2) (bothX (binQ addQ px qx) (binQ addQ py qy))) (binQ mulQ (ofQ 1 2) (bothY (binQ addQ px qx) (binQ addQ py qy))))) w) := by
  have HX := Lib.hid (fun W h h' => plusP_r px py qx qy pa pb qa qb W fpx fpy fqx fqy h h')
  have HR := Lib.hid (fun W => show Calls Tryz.prog 82 #[.int .i64 1, .int .i64 2] W (MadeQ W.heap.size (ofO (ofQ 1 2)) W) from (impl_rof 1 2 W (by decide) (by decide)).mono fun e w' k => MadeR.toQ (x := ofO (ofQ 1 2)) k)
  have HP := Lib.hid (fun a b c W h h' => timesP_r (bothX (binQ addQ px qx) (binQ addQ py qy)) (bothY (binQ addQ px qx) (binQ addQ py qy)) (ofQ 1 2) a b c W (bothX_fit (addO_fit _ _)) (bothY_fit (addO_fit _ _)) (ofQ_fit 1 2) h h')
  have RR : Hid (∀ W, Below w.heap.size w W → Rds W (rows (ofO px) pa ++ rows (ofO py) pb) ∧ Rds W (rows (ofO qx) qa ++ rows (ofO qy) qb)) := Lib.hid (fun W hb => ⟨hp.below hb, hq.below hb⟩)
  clear fpx fpy fqx fqy hp hq
  generalize ofO (bothX (binQ mulQ (ofQ 1 2) (bothX (binQ addQ px qx) (binQ addQ py qy))) (binQ mulQ (ofQ 1 2) (bothY (binQ addQ px qx) (binQ addQ py qy)))) = U at HP ⊢
  generalize ofO (bothY (binQ mulQ (ofQ 1 2) (bothX (binQ addQ px qx) (binQ addQ py qy))) (binQ mulQ (ofQ 1 2) (bothY (binQ addQ px qx) (binQ addQ py qy)))) = V at HP ⊢
  generalize ofO (bothX (binQ addQ px qx) (binQ addQ py qy)) = x1 at HX HP
  generalize ofO (bothY (binQ addQ px qx) (binQ addQ py qy)) = y1 at HX HP
  generalize ofO (ofQ 1 2) = H at HR HP
  generalize ofO px = pX at *
  generalize ofO py = pY at *
  generalize ofO qx = qX at *
  generalize ofO qy = qY at *
  go_enter Tryz.func83, Tryz.ntmps83
  go_wp2_with fail
  have kb := ba3 w (.cells (r6 pX pY pa pb) 31) (.cells (r6 qX qY qa qb) 31) (.cells z6 31)
  obtain ⟨P_p, P_q, P_o⟩ := blocks3 w (.cells (r6 pX pY pa pb) 31) (.cells (r6 qX qY qa qb) 31) (.cells z6 31)
  generalize ((w.alloc (.cells (r6 pX pY pa pb) 31)).alloc (.cells (r6 qX qY qa qb) 31)).alloc (.cells z6 31) = W1 at kb P_p P_q P_o ⊢
  obtain ⟨rr, hrr⟩ : ∃ r, r = w.heap.size + 1 + 1 := ⟨_, rfl⟩
  rw [← hrr] at P_o ⊢
  have hrr3 : w.heap.size ≤ rr := by omega
  have nr_p : rr ≠ w.heap.size := by omega
  have nr_q : rr ≠ w.heap.size + 1 := by omega
  clear hrr
  have hlt0 := rblk_lt P_o
  have hle0 := kb.size
  refine (HX.out _ (RR.out _ kb).1 (RR.out _ kb).2).mono ?_
  rintro e W2 ⟨a1, b1, rfl, hcx, o1, hap1, hb⟩
  replace P_p := rblk_below P_p hb
  replace P_q := rblk_below P_q hb
  replace P_o := rblk_below P_o hb
  replace kb := bt kb hb
  clear hb
  go_wp2_with fail
  refine (HR.out _).mono ?_
  rintro e W3 ⟨a2, rfl, hc1, hc2, o2, hap2, hb⟩
  replace P_p := rblk_below P_p hb
  replace P_q := rblk_below P_q hb
  replace P_o := rblk_below P_o hb
  replace o1 := o1.below hb
  replace kb := bt kb hb
  clear hb
  go_wp2_with fail
  have hz0 := kb.size
  have hlt1 := rblk_lt P_o
  refine (HP.out _ _ _ _ o1.rds o2.rds).mono ?_
  rintro e W4 ⟨a3, b3, rfl, hcs, o3, hap3, hb⟩
  replace P_p := rblk_below P_p hb
  replace P_q := rblk_below P_q hb
  replace P_o := rblk_below P_o hb
  replace o1 := o1.below hb
  replace o2 := o2.below hb
  replace kb := bt kb hb
  clear hb
  have c_o0 := rblk_cell P_o 0
  have c_o1 := rblk_cell P_o 1
  have c_o2 := rblk_cell P_o 2
  have c_o3 := rblk_cell P_o 3
  have c_o4 := rblk_cell P_o 4
  have c_o5 := rblk_cell P_o 5
  have f_o0 := rblk_free P_o 0
  have f_o1 := rblk_free P_o 1
  have f_o2 := rblk_free P_o 2
  have f_o3 := rblk_free P_o 3
  have f_o4 := rblk_free P_o 4
  have f_o5 := rblk_free P_o 5
  go_wp2
  exact bodyPost_ret (v := .agg (r6 U V a3 b3)) (by simp [results, Tryz.results83, go_sem, c_o0, c_o1, c_o2, c_o3, c_o4, c_o5]) rfl ⟨a3, b3, rfl, hcs, owns_end6 o3 (.inl hlt1) hz0 (Nat.le_refl _) _ _ _ _ _ _, hap3, below_put6 kb hrr3 _ _ _ _ _ _⟩
theorem blocks4 (w : World) (o1 o2 o3 o4 : Obj) : ((((w.alloc o1).alloc o2).alloc o3).alloc o4).heap[w.heap.size]? = some o1 ∧ ((((w.alloc o1).alloc o2).alloc o3).alloc o4).heap[w.heap.size + 1]? = some o2 ∧ ((((w.alloc o1).alloc o2).alloc o3).alloc o4).heap[w.heap.size + 1 + 1]? = some o3 ∧ ((((w.alloc o1).alloc o2).alloc o3).alloc o4).heap[w.heap.size + 1 + 1 + 1]? = some o4 := by
  obtain ⟨h1, h2, h3⟩ := blocks3 w o1 o2 o3
  have hb := ba1 (((w.alloc o1).alloc o2).alloc o3) o4
  have h4 := heap_alloc_new (((w.alloc o1).alloc o2).alloc o3) o4
  rw [sz1, sz1, sz1] at h4
  exact ⟨rblk_below h1 hb, rblk_below h2 hb, rblk_below h3 hb, h4⟩
theorem ba4 (w : World) (o1 o2 o3 o4 : Obj) : Below w.heap.size w ((((w.alloc o1).alloc o2).alloc o3).alloc o4) := (ba3 w o1 o2 o3).alloc (ba3 w o1 o2 o3).size _
theorem areaP_r (px py qx qy tx ty : Option Rat) (pa pb qa qb ta tb : Ad) (w : World) (fpx : FitO px) (fpy : FitO py) (fqx : FitO qx) (fqy : FitO qy) (ftx : FitO tx) (fty : FitO ty) (hp : Rds w (rows (ofO px) pa ++ rows (ofO py) pb)) (hq : Rds w (rows (ofO qx) qa ++ rows (ofO qy) qb)) (ht : Rds w (rows (ofO tx) ta ++ rows (ofO ty) tb)) :
    Calls Tryz.prog 136 #[.agg (r6 (ofO px) (ofO py) pa pb), .agg (r6 (ofO qx) (ofO qy) qa qb), .agg (r6 (ofO tx) (ofO ty) ta tb)] w (MadeQ w.heap.size (ofO (binQ subQ (binQ mulQ (bothX (binQ subQ qx px) (binQ subQ qy py)) (bothY (binQ subQ tx px) (binQ subQ ty py))) (binQ mulQ (bothY (binQ subQ qx px) (binQ subQ qy py)) (bothX (binQ subQ tx px) (binQ subQ ty py))))) w) := by
  have HX := Lib.hid (fun W h h' => minusP_r qx qy px py qa qb pa pb W fqx fqy fpx fpy h h')
  have HY := Lib.hid (fun W h h' => minusP_r tx ty px py ta tb pa pb W ftx fty fpx fpy h h')
  have HP := Lib.hid (fun a b c d W h h' => crossP_r (bothX (binQ subQ qx px) (binQ subQ qy py)) (bothY (binQ subQ qx px) (binQ subQ qy py)) (bothX (binQ subQ tx px) (binQ subQ ty py)) (bothY (binQ subQ tx px) (binQ subQ ty py)) a b c d W (bothX_fit (subO_fit _ _)) (bothY_fit (subO_fit _ _)) (bothX_fit (subO_fit _ _)) (bothY_fit (subO_fit _ _)) h h')
  have RR : Hid (∀ W, Below w.heap.size w W → Rds W (rows (ofO px) pa ++ rows (ofO py) pb) ∧ Rds W (rows (ofO qx) qa ++ rows (ofO qy) qb) ∧ Rds W (rows (ofO tx) ta ++ rows (ofO ty) tb)) := Lib.hid (fun W hb => ⟨hp.below hb, hq.below hb, ht.below hb⟩)
  clear fpx fpy fqx fqy ftx fty hp hq ht
  generalize ofO (binQ subQ (binQ mulQ (bothX (binQ subQ qx px) (binQ subQ qy py)) (bothY (binQ subQ tx px) (binQ subQ ty py))) (binQ mulQ (bothY (binQ subQ qx px) (binQ subQ qy py)) (bothX (binQ subQ tx px) (binQ subQ ty py)))) = U at HP ⊢
  generalize ofO (bothX (binQ subQ qx px) (binQ subQ qy py)) = x1 at HX HP
  generalize ofO (bothY (binQ subQ qx px) (binQ subQ qy py)) = y1 at HX HP
  generalize ofO (bothX (binQ subQ tx px) (binQ subQ ty py)) = x2 at HY HP
  generalize ofO (bothY (binQ subQ tx px) (binQ subQ ty py)) = y2 at HY HP
  generalize ofO px = pX at *
  generalize ofO py = pY at *
  generalize ofO qx = qX at *
  generalize ofO qy = qY at *
  generalize ofO tx = tX at *
  generalize ofO ty = tY at *
  go_enter Tryz.func136, Tryz.ntmps136
  go_wp2_with fail
  have kb := ba4 w (.cells (r6 pX pY pa pb) 31) (.cells (r6 qX qY qa qb) 31) (.cells (r6 tX tY ta tb) 31) (.cells z3 29)
  obtain ⟨P_p, P_q, P_t, P_o⟩ := blocks4 w (.cells (r6 pX pY pa pb) 31) (.cells (r6 qX qY qa qb) 31) (.cells (r6 tX tY ta tb) 31) (.cells z3 29)
  generalize (((w.alloc (.cells (r6 pX pY pa pb) 31)).alloc (.cells (r6 qX qY qa qb) 31)).alloc (.cells (r6 tX tY ta tb) 31)).alloc (.cells z3 29) = W1 at kb P_p P_q P_t P_o ⊢
  obtain ⟨rr, hrr⟩ : ∃ r, r = w.heap.size + 1 + 1 + 1 := ⟨_, rfl⟩
  rw [← hrr] at P_o ⊢
  have hrr3 : w.heap.size ≤ rr := by omega
  have nr_p : rr ≠ w.heap.size := by omega
  have nr_q : rr ≠ w.heap.size + 1 := by omega
  have nr_t : rr ≠ w.heap.size + 1 + 1 := by omega
  clear hrr
  have hlt0 := rblk_lt P_o
  have hle0 := kb.size
  have SB : Hid (∀ w', Keep3 W1 w' rr → (w'.cell? ⟨w.heap.size, 0, none⟩ = some (.bool pX.p) ∧ w'.cell? ⟨w.heap.size, 1, none⟩ = some (.slice pa.A pX.l.length pa.c) ∧ w'.cell? ⟨w.heap.size, 2, none⟩ = some (.slice pa.D pX.m.length pa.d) ∧ w'.cell? ⟨w.heap.size, 3, none⟩ = some (.bool pY.p) ∧ w'.cell? ⟨w.heap.size, 4, none⟩ = some (.slice pb.A pY.l.length pb.c) ∧ w'.cell? ⟨w.heap.size, 5, none⟩ = some (.slice pb.D pY.m.length pb.d) ∧ w'.cell? ⟨w.heap.size + 1, 0, none⟩ = some (.bool qX.p) ∧ w'.cell? ⟨w.heap.size + 1, 1, none⟩ = some (.slice qa.A qX.l.length qa.c) ∧ w'.cell? ⟨w.heap.size + 1, 2, none⟩ = some (.slice qa.D qX.m.length qa.d) ∧ w'.cell? ⟨w.heap.size + 1, 3, none⟩ = some (.bool qY.p) ∧ w'.cell? ⟨w.heap.size + 1, 4, none⟩ = some (.slice qb.A qY.l.length qb.c) ∧ w'.cell? ⟨w.heap.size + 1, 5, none⟩ = some (.slice qb.D qY.m.length qb.d) ∧ w'.cell? ⟨w.heap.size + 1 + 1, 0, none⟩ = some (.bool tX.p) ∧ w'.cell? ⟨w.heap.size + 1 + 1, 1, none⟩ = some (.slice ta.A tX.l.length ta.c) ∧ w'.cell? ⟨w.heap.size + 1 + 1, 2, none⟩ = some (.slice ta.D tX.m.length ta.d) ∧ w'.cell? ⟨w.heap.size + 1 + 1, 3, none⟩ = some (.bool tY.p) ∧ w'.cell? ⟨w.heap.size + 1 + 1, 4, none⟩ = some (.slice tb.A tY.l.length tb.c) ∧ w'.cell? ⟨w.heap.size + 1 + 1, 5, none⟩ = some (.slice tb.D tY.m.length tb.d) ∧ Keep3 W1 w' rr)) := Lib.hid (fun w' hK => ⟨rblk_cell (hK.block P_p nr_p) 0, rblk_cell (hK.block P_p nr_p) 1, rblk_cell (hK.block P_p nr_p) 2, rblk_cell (hK.block P_p nr_p) 3, rblk_cell (hK.block P_p nr_p) 4, rblk_cell (hK.block P_p nr_p) 5, rblk_cell (hK.block P_q nr_q) 0, rblk_cell (hK.block P_q nr_q) 1, rblk_cell (hK.block P_q nr_q) 2, rblk_cell (hK.block P_q nr_q) 3, rblk_cell (hK.block P_q nr_q) 4, rblk_cell (hK.block P_q nr_q) 5, rblk_cell (hK.block P_t nr_t) 0, rblk_cell (hK.block P_t nr_t) 1, rblk_cell (hK.block P_t nr_t) 2, rblk_cell (hK.block P_t nr_t) 3, rblk_cell (hK.block P_t nr_t) 4, rblk_cell (hK.block P_t nr_t) 5, hK⟩)
  have KW := Lib.hid kb
  have KST := Keep3.start P_o
  clear kb
  go_region_held3 (fun w' => w'.cell? ⟨w.heap.size, 0, none⟩ = some (.bool pX.p) ∧ w'.cell? ⟨w.heap.size, 1, none⟩ = some (.slice pa.A pX.l.length pa.c) ∧ w'.cell? ⟨w.heap.size, 2, none⟩ = some (.slice pa.D pX.m.length pa.d) ∧ w'.cell? ⟨w.heap.size, 3, none⟩ = some (.bool pY.p) ∧ w'.cell? ⟨w.heap.size, 4, none⟩ = some (.slice pb.A pY.l.length pb.c) ∧ w'.cell? ⟨w.heap.size, 5, none⟩ = some (.slice pb.D pY.m.length pb.d) ∧ w'.cell? ⟨w.heap.size + 1, 0, none⟩ = some (.bool qX.p) ∧ w'.cell? ⟨w.heap.size + 1, 1, none⟩ = some (.slice qa.A qX.l.length qa.c) ∧ w'.cell? ⟨w.heap.size + 1, 2, none⟩ = some (.slice qa.D qX.m.length qa.d) ∧ w'.cell? ⟨w.heap.size + 1, 3, none⟩ = some (.bool qY.p) ∧ w'.cell? ⟨w.heap.size + 1, 4, none⟩ = some (.slice qb.A qY.l.length qb.c) ∧ w'.cell? ⟨w.heap.size + 1, 5, none⟩ = some (.slice qb.D qY.m.length qb.d) ∧ w'.cell? ⟨w.heap.size + 1 + 1, 0, none⟩ = some (.bool tX.p) ∧ w'.cell? ⟨w.heap.size + 1 + 1, 1, none⟩ = some (.slice ta.A tX.l.length ta.c) ∧ w'.cell? ⟨w.heap.size + 1 + 1, 2, none⟩ = some (.slice ta.D tX.m.length ta.d) ∧ w'.cell? ⟨w.heap.size + 1 + 1, 3, none⟩ = some (.bool tY.p) ∧ w'.cell? ⟨w.heap.size + 1 + 1, 4, none⟩ = some (.slice tb.A tY.l.length tb.c) ∧ w'.cell? ⟨w.heap.size + 1 + 1, 5, none⟩ = some (.slice tb.D tY.m.length tb.d) ∧ Keep3 W1 w' rr)
    (first | (with_reducible exact SB.out _ KST.drew) | (with_reducible exact SB.out _ KST) | (go_split_ands; with_reducible refine SB.out _ ?_; with_reducible refine Keep3.put3 ?_ _ _ _; with_reducible assumption) | (with_reducible exact SB.out _ (KST.below (ba1 _ _))) | (with_reducible exact SB.out _ (KST.drew.below (ba1 _ _))) | (go_split_ands; with_reducible exact SB.out _ (Keep3.below (by assumption : Keep3 W1 _ rr) hb)) | (go_split_ands; with_reducible exact SB.out _ (Keep3.below (by assumption : Keep3 W1 _ rr) (ba1 _ _))))
    (first | (go_at_call 180; go_split_ands; ((with_reducible refine (HX.out _ (RR.out _ (Keep3.base (by assumption : Keep3 W1 _ rr) KW.out hrr3)).2.1 (RR.out _ (Keep3.base (by assumption : Keep3 W1 _ rr) KW.out hrr3)).1).mono ?_); rintro e Wn1_0 ⟨a1, b1, rfl, hcx, o1, hap1, hb⟩; skip)) | (go_at_call 180; go_split_ands; ((with_reducible refine (HY.out _ (RR.out _ (Keep3.base (by assumption : Keep3 W1 _ rr) KW.out hrr3)).2.2 (RR.out _ (Keep3.base (by assumption : Keep3 W1 _ rr) KW.out hrr3)).1).mono ?_); rintro e Wn1_1 ⟨a2, b2, rfl, hcy, o2, hap2, hb⟩; (first | (with_reducible replace o1 := o1.below hb) | (with_reducible replace o1 := (Owns.drew o1).below hb) | (with_reducible replace o1 := (o1.below (ba1 _ _)).below hb) | (with_reducible replace o1 := (Owns.drew (o1.below (ba1 _ _))).below hb)))) | (go_at_call 181; go_split_ands; ((with_reducible refine (HP.out _ _ _ _ _ (by first | with_reducible exact o1.rds | with_reducible exact (Owns.drew o1).rds | with_reducible exact (o1.below (ba1 _ _)).rds | with_reducible exact (Owns.drew (o1.below (ba1 _ _))).rds) (by first | with_reducible exact o2.rds | with_reducible exact (Owns.drew o2).rds | with_reducible exact (o2.below (ba1 _ _)).rds | with_reducible exact (Owns.drew (o2.below (ba1 _ _))).rds)).mono ?_); rintro e Wn1_2 ⟨a3, rfl, hc5, hc6, o3, hap3, hb⟩; have hz0 := Keep3.size (by assumption : Keep3 W1 _ rr); have KL := Keep3.below (by assumption : Keep3 W1 _ rr) hb; obtain ⟨u0, u1, u2, t0, t1, t2, t3, t4, t5⟩ := KL.cells)))
  all_goals
    have hfin := (‹_ ∧ _ ∧ _ ∧ _ ∧ _ ∧ _ ∧ _ ∧ _ ∧ _ ∧ _ ∧ _ ∧ _ ∧ _ ∧ _ ∧ _ ∧ _ ∧ _ ∧ _ ∧ Keep3 W1 _ rr›).2.2.2.2.2.2.2.2.2.2.2.2.2.2.2.2.2.2
    go_wp2
    exact bodyPost_ret (v := .agg (r3 U a3)) (by simp [results, Tryz.results136, go_sem, t0, t1, t2]) rfl ⟨a3, rfl, hc5, hc6, owns_end3 o3 (.inl (Nat.lt_of_lt_of_le hlt0 hz0)) (Nat.le_trans hle0 hz0) (Nat.le_refl _) _ _ _, hap3, hfin.base KW.out hrr3⟩
theorem mid_no {x y u v : R3} (h : (okx x && okx y && (okx u && okx v)) = false) : (bothX (binQ mulQ (ofQ 1 2) (bothX (binQ addQ (valx x) (valx u)) (binQ addQ (valx y) (valx v)))) (binQ mulQ (ofQ 1 2) (bothY (binQ addQ (valx x) (valx u)) (binQ addQ (valx y) (valx v))))) = none ∧ (bothY (binQ mulQ (ofQ 1 2) (bothX (binQ addQ (valx x) (valx u)) (binQ addQ (valx y) (valx v)))) (binQ mulQ (ofQ 1 2) (bothY (binQ addQ (valx x) (valx u)) (binQ addQ (valx y) (valx v))))) = none := by
  rw [(both_no h).1, (both_no h).2, bin_n2]
  exact both_n1 none
theorem app_mid_yes (U V : R3) (x y u v : R3) (a b c d : Ad) (w : World) (hxl : x.l.length ≤ 9223372036854775807) (hxm : x.m.length ≤ 9223372036854775807) (hyl : y.l.length ≤ 9223372036854775807) (hym : y.m.length ≤ 9223372036854775807) (hul : u.l.length ≤ 9223372036854775807) (hum : u.m.length ≤ 9223372036854775807) (hvl : v.l.length ≤ 9223372036854775807) (hvm : v.m.length ≤ 9223372036854775807) (h : Rds w (rows x a ++ rows y b)) (h' : Rds w (rows u c ++ rows v d)) (ok1 : (okx x && okx y) = true) (ok2 : (okx u && okx v) = true)
    (HM : Hid (∀ W, Rds W (rows x a ++ rows y b) → Rds W (rows u c ++ rows v d) → Calls Tryz.prog 83 #[.agg (r6 x y a b), .agg (r6 u v c d)] W (MadeP W.heap.size U V W))) :
    Calls Tryz.prog 73 #[.agg (r6 x y a b), .agg (r6 u v c d), .func (.func 83) #[.agg (r6 x y a b)] #[]] w (MadeP w.heap.size U V w) := by
  have H1 := Lib.hid (fun W h => impl_valid x y a b W hxl hxm hyl hym h)
  have H2 := Lib.hid (fun W h => impl_valid u v c d W hul hum hvl hvm h)
  have R1 : Hid (∀ W, Below w.heap.size w W → Rds W (rows x a ++ rows y b)) := Lib.hid (fun W hb => h.below hb)
  have R2 : Hid (∀ W, Below w.heap.size w W → Rds W (rows u c ++ rows v d)) := Lib.hid (fun W hb => h'.below hb)
  rw [ok1] at H1
  rw [ok2] at H2
  clear h h' ok1 ok2 hxl hxm hyl hym hul hum hvl hvm
  go_enter Tryz.func73, Tryz.ntmps73
  go_wp2_with fail
  have kb := ba3 w (.cells (r6 x y a b) 31) (.cells (r6 u v c d) 31) (.cells z6 31)
  obtain ⟨P_p, P_q, P_o⟩ := blocks3 w (.cells (r6 x y a b) 31) (.cells (r6 u v c d) 31) (.cells z6 31)
  generalize ((w.alloc (.cells (r6 x y a b) 31)).alloc (.cells (r6 u v c d) 31)).alloc (.cells z6 31) = W1 at kb P_p P_q P_o ⊢
  obtain ⟨rr, hrr⟩ : ∃ r, r = w.heap.size + 1 + 1 := ⟨_, rfl⟩
  rw [← hrr] at P_o ⊢
  have hrr3 : w.heap.size ≤ rr := by omega
  have nr_p : rr ≠ w.heap.size := by omega
  have nr_q : rr ≠ w.heap.size + 1 := by omega
  clear hrr
  refine (H1.out _ (R1.out _ kb)).mono ?_
  rintro e W2 ⟨rfl, hb⟩
  replace P_p := rblk_below P_p hb
  replace P_q := rblk_below P_q hb
  replace P_o := rblk_below P_o hb
  replace kb := bt kb hb
  clear hb
  have c_q0 := rblk_cell P_q 0
  have c_q1 := rblk_cell P_q 1
  have c_q2 := rblk_cell P_q 2
  have c_q3 := rblk_cell P_q 3
  have c_q4 := rblk_cell P_q 4
  have c_q5 := rblk_cell P_q 5
  go_wp2_with fail
  clear c_q0 c_q1 c_q2 c_q3 c_q4 c_q5
  refine (H2.out _ (R2.out _ kb)).mono ?_
  rintro e W3 ⟨rfl, hb⟩
  replace P_p := rblk_below P_p hb
  replace P_q := rblk_below P_q hb
  replace P_o := rblk_below P_o hb
  replace kb := bt kb hb
  clear hb
  have c_q0 := rblk_cell P_q 0
  have c_q1 := rblk_cell P_q 1
  have c_q2 := rblk_cell P_q 2
  have c_q3 := rblk_cell P_q 3
  have c_q4 := rblk_cell P_q 4
  have c_q5 := rblk_cell P_q 5
  go_wp2_with fail
  clear c_q0 c_q1 c_q2 c_q3 c_q4 c_q5
  have hlt0 := rblk_lt P_o
  have hle0 := kb.size
  refine (HM.out _ (R1.out _ kb) (R2.out _ kb)).mono ?_
  rintro e W4 ⟨a3, b3, rfl, hcs, o3, hap3, hb⟩
  replace P_p := rblk_below P_p hb
  replace P_q := rblk_below P_q hb
  replace P_o := rblk_below P_o hb
  replace kb := bt kb hb
  clear hb
  have c_o0 := rblk_cell P_o 0
  have c_o1 := rblk_cell P_o 1
  have c_o2 := rblk_cell P_o 2
  have c_o3 := rblk_cell P_o 3
  have c_o4 := rblk_cell P_o 4
  have c_o5 := rblk_cell P_o 5
  have f_o0 := rblk_free P_o 0
  have f_o1 := rblk_free P_o 1
  have f_o2 := rblk_free P_o 2
  have f_o3 := rblk_free P_o 3
  have f_o4 := rblk_free P_o 4
  have f_o5 := rblk_free P_o 5
  go_wp2
  exact bodyPost_ret (v := .agg (r6 U V a3 b3)) (by simp [results, Tryz.results73, go_sem, c_o0, c_o1, c_o2, c_o3, c_o4, c_o5]) rfl ⟨a3, b3, rfl, hcs, owns_end6 o3 (.inl hlt0) hle0 (Nat.le_refl _) _ _ _ _ _ _, hap3, below_put6 kb hrr3 _ _ _ _ _ _⟩
theorem app_mid_no (x y u v : R3) (a b c d : Ad) (w : World) (K : Value) (hxl : x.l.length ≤ 9223372036854775807) (hxm : x.m.length ≤ 9223372036854775807) (hyl : y.l.length ≤ 9223372036854775807) (hym : y.m.length ≤ 9223372036854775807) (hul : u.l.length ≤ 9223372036854775807) (hum : u.m.length ≤ 9223372036854775807) (hvl : v.l.length ≤ 9223372036854775807) (hvm : v.m.length ≤ 9223372036854775807) (h : Rds w (rows x a ++ rows y b)) (h' : Rds w (rows u c ++ rows v d)) (ok : (okx x && okx y && (okx u && okx v)) = false) :
    Calls Tryz.prog 73 #[.agg (r6 x y a b), .agg (r6 u v c d), K] w (MadeP w.heap.size noR noR w) := by
  have H1 := Lib.hid (fun W h => impl_valid x y a b W hxl hxm hyl hym h)
  have H2 := Lib.hid (fun W h => impl_valid u v c d W hul hum hvl hvm h)
  have R1 : Hid (∀ W, Below w.heap.size w W → Rds W (rows x a ++ rows y b)) := Lib.hid (fun W hb => h.below hb)
  have R2 : Hid (∀ W, Below w.heap.size w W → Rds W (rows u c ++ rows v d)) := Lib.hid (fun W hb => h'.below hb)
  clear h h' hxl hxm hyl hym hul hum hvl hvm
  by_cases ok1 : (okx x && okx y) = true
  · rw [ok1, Bool.true_and] at ok
    rw [ok1] at H1
    rw [ok] at H2
    clear ok ok1
    go_enter Tryz.func73, Tryz.ntmps73
    go_wp2_with fail
    have kb := ba3 w (.cells (r6 x y a b) 31) (.cells (r6 u v c d) 31) (.cells z6 31)
    obtain ⟨P_p, P_q, P_o⟩ := blocks3 w (.cells (r6 x y a b) 31) (.cells (r6 u v c d) 31) (.cells z6 31)
    generalize ((w.alloc (.cells (r6 x y a b) 31)).alloc (.cells (r6 u v c d) 31)).alloc (.cells z6 31) = W1 at kb P_p P_q P_o ⊢
    obtain ⟨rr, hrr⟩ : ∃ r, r = w.heap.size + 1 + 1 := ⟨_, rfl⟩
    rw [← hrr] at P_o ⊢
    have hrr3 : w.heap.size ≤ rr := by omega
    have nr_p : rr ≠ w.heap.size := by omega
    have nr_q : rr ≠ w.heap.size + 1 := by omega
    clear hrr
    refine (H1.out _ (R1.out _ kb)).mono ?_
    rintro e W2 ⟨rfl, hb⟩
    replace P_p := rblk_below P_p hb
    replace P_q := rblk_below P_q hb
    replace P_o := rblk_below P_o hb
    replace kb := bt kb hb
    clear hb
    have c_q0 := rblk_cell P_q 0
    have c_q1 := rblk_cell P_q 1
    have c_q2 := rblk_cell P_q 2
    have c_q3 := rblk_cell P_q 3
    have c_q4 := rblk_cell P_q 4
    have c_q5 := rblk_cell P_q 5
    go_wp2_with fail
    clear c_q0 c_q1 c_q2 c_q3 c_q4 c_q5
    refine (H2.out _ (R2.out _ kb)).mono ?_
    rintro e W3 ⟨rfl, hb⟩
    replace P_p := rblk_below P_p hb
    replace P_q := rblk_below P_q hb
    replace P_o := rblk_below P_o hb
    replace kb := bt kb hb
    clear hb
    have hlt0 := rblk_lt P_o
    have Pz := rblk_below (rblk_set (rblk_set (rblk_set (rblk_set (rblk_set (rblk_set P_o 0 (.bool false)) 1 (.slice none 0 0)) 2 (.slice none 0 0)) 3 (.bool false)) 4 (.slice none 0 0)) 5 (.slice none 0 0)) (ba1 _ (.cells z6 31))
    have z0 := rblk_cell Pz 0
    have z1 := rblk_cell Pz 1
    have z2 := rblk_cell Pz 2
    have z3 := rblk_cell Pz 3
    have z4 := rblk_cell Pz 4
    have z5 := rblk_cell Pz 5
    clear Pz
    have c_o0 := rblk_cell P_o 0
    have c_o1 := rblk_cell P_o 1
    have c_o2 := rblk_cell P_o 2
    have c_o3 := rblk_cell P_o 3
    have c_o4 := rblk_cell P_o 4
    have c_o5 := rblk_cell P_o 5
    have f_o0 := rblk_free P_o 0
    have f_o1 := rblk_free P_o 1
    have f_o2 := rblk_free P_o 2
    have f_o3 := rblk_free P_o 3
    have f_o4 := rblk_free P_o 4
    have f_o5 := rblk_free P_o 5
    go_wp2
    exact bodyPost_ret (v := .agg z6) (by simp [results, Tryz.results73, go_sem, z0, z1, z2, z3, z4, z5]) rfl (none_point _ _ _ (below_put6a kb hrr3 kb.size _ _ _ _ _ _ _))
  · have ok1' : (okx x && okx y) = false := by simpa using ok1
    rw [ok1'] at H1
    clear ok ok1 ok1'
    go_enter Tryz.func73, Tryz.ntmps73
    go_wp2_with fail
    have kb := ba3 w (.cells (r6 x y a b) 31) (.cells (r6 u v c d) 31) (.cells z6 31)
    obtain ⟨P_p, P_q, P_o⟩ := blocks3 w (.cells (r6 x y a b) 31) (.cells (r6 u v c d) 31) (.cells z6 31)
    generalize ((w.alloc (.cells (r6 x y a b) 31)).alloc (.cells (r6 u v c d) 31)).alloc (.cells z6 31) = W1 at kb P_p P_q P_o ⊢
    obtain ⟨rr, hrr⟩ : ∃ r, r = w.heap.size + 1 + 1 := ⟨_, rfl⟩
    rw [← hrr] at P_o ⊢
    have hrr3 : w.heap.size ≤ rr := by omega
    have nr_p : rr ≠ w.heap.size := by omega
    have nr_q : rr ≠ w.heap.size + 1 := by omega
    clear hrr
    refine (H1.out _ (R1.out _ kb)).mono ?_
    rintro e W2 ⟨rfl, hb⟩
    replace P_p := rblk_below P_p hb
    replace P_q := rblk_below P_q hb
    replace P_o := rblk_below P_o hb
    replace kb := bt kb hb
    clear hb
    have hlt0 := rblk_lt P_o
    have Pz := rblk_below (rblk_set (rblk_set (rblk_set (rblk_set (rblk_set (rblk_set P_o 0 (.bool false)) 1 (.slice none 0 0)) 2 (.slice none 0 0)) 3 (.bool false)) 4 (.slice none 0 0)) 5 (.slice none 0 0)) (ba1 _ (.cells z6 31))
    have z0 := rblk_cell Pz 0
    have z1 := rblk_cell Pz 1
    have z2 := rblk_cell Pz 2
    have z3 := rblk_cell Pz 3
    have z4 := rblk_cell Pz 4
    have z5 := rblk_cell Pz 5
    clear Pz
    have c_o0 := rblk_cell P_o 0
    have c_o1 := rblk_cell P_o 1
    have c_o2 := rblk_cell P_o 2
    have c_o3 := rblk_cell P_o 3
    have c_o4 := rblk_cell P_o 4
    have c_o5 := rblk_cell P_o 5
    have f_o0 := rblk_free P_o 0
    have f_o1 := rblk_free P_o 1
    have f_o2 := rblk_free P_o 2
    have f_o3 := rblk_free P_o 3
    have f_o4 := rblk_free P_o 4
    have f_o5 := rblk_free P_o 5
    go_wp2
    exact bodyPost_ret (v := .agg z6) (by simp [results, Tryz.results73, go_sem, z0, z1, z2, z3, z4, z5]) rfl (none_point _ _ _ (below_put6a kb hrr3 kb.size _ _ _ _ _ _ _))
theorem app_mid_any (x y u v : R3) (a b c d : Ad) (w : World) (hxl : x.l.length ≤ 9223372036854775807) (hxm : x.m.length ≤ 9223372036854775807) (hyl : y.l.length ≤ 9223372036854775807) (hym : y.m.length ≤ 9223372036854775807) (hul : u.l.length ≤ 9223372036854775807) (hum : u.m.length ≤ 9223372036854775807) (hvl : v.l.length ≤ 9223372036854775807) (hvm : v.m.length ≤ 9223372036854775807) (h : Rds w (rows x a ++ rows y b)) (h' : Rds w (rows u c ++ rows v d)) :
    Calls Tryz.prog 73 #[.agg (r6 x y a b), .agg (r6 u v c d), .func (.func 83) #[.agg (r6 x y a b)] #[]] w (MadeP w.heap.size (ofO (bothX (binQ mulQ (ofQ 1 2) (bothX (binQ addQ (valx x) (valx u)) (binQ addQ (valx y) (valx v)))) (binQ mulQ (ofQ 1 2) (bothY (binQ addQ (valx x) (valx u)) (binQ addQ (valx y) (valx v)))))) (ofO (bothY (binQ mulQ (ofQ 1 2) (bothX (binQ addQ (valx x) (valx u)) (binQ addQ (valx y) (valx v)))) (binQ mulQ (ofQ 1 2) (bothY (binQ addQ (valx x) (valx u)) (binQ addQ (valx y) (valx v)))))) w) := by
  by_cases ok : (okx x && okx y && (okx u && okx v)) = true
  · have ok0 := ok
    simp only [Bool.and_eq_true] at ok
    obtain ⟨⟨k1, k2⟩, k3, k4⟩ := ok
    rw [Bool.and_eq_true] at ok0
    refine app_mid_yes _ _ x y u v a b c d w hxl hxm hyl hym hul hum hvl hvm h h' ok0.1 ok0.2 (Lib.hid fun W h1 h2 => ?_)
    obtain ⟨r1, e1, rfl, f1⟩ := valx_yes k1
    obtain ⟨r2, e2, rfl, f2⟩ := valx_yes k2
    obtain ⟨r3, e3, rfl, f3⟩ := valx_yes k3
    obtain ⟨r4, e4, rfl, f4⟩ := valx_yes k4
    rw [e1, e2, e3, e4]
    exact midP_r (some r1) (some r2) (some r3) (some r4) a b c d W (fitO_some f1) (fitO_some f2) (fitO_some f3) (fitO_some f4) h1 h2
  · have ok' : (okx x && okx y && (okx u && okx v)) = false := by simpa using ok
    rw [(mid_no ok').1, (mid_no ok').2]
    exact app_mid_no x y u v a b c d w _ hxl hxm hyl hym hul hum hvl hvm h h' ok'
theorem impl_midP (x y u v : R3) (a b c d : Ad) (w : World) (hxl : x.l.length ≤ 9223372036854775807) (hxm : x.m.length ≤ 9223372036854775807) (hyl : y.l.length ≤ 9223372036854775807) (hym : y.m.length ≤ 9223372036854775807) (hul : u.l.length ≤ 9223372036854775807) (hum : u.m.length ≤ 9223372036854775807) (hvl : v.l.length ≤ 9223372036854775807) (hvm : v.m.length ≤ 9223372036854775807) (h : Rds w (rows x a ++ rows y b)) (h' : Rds w (rows u c ++ rows v d)) :
    Calls Tryz.prog 25 #[.agg (r6 x y a b), .agg (r6 u v c d)] w (MadeP w.heap.size (ofO (bothX (binQ mulQ (ofQ 1 2) (bothX (binQ addQ (valx x) (valx u)) (binQ addQ (valx y) (valx v)))) (binQ mulQ (ofQ 1 2) (bothY (binQ addQ (valx x) (valx u)) (binQ addQ (valx y) (valx v)))))) (ofO (bothY (binQ mulQ (ofQ 1 2) (bothX (binQ addQ (valx x) (valx u)) (binQ addQ (valx y) (valx v)))) (binQ mulQ (ofQ 1 2) (bothY (binQ addQ (valx x) (valx u)) (binQ addQ (valx y) (valx v)))))) w) := by
  have HA := Lib.hid (fun W h h' => app_mid_any x y u v a b c d W hxl hxm hyl hym hul hum hvl hvm h h')
  have R1 : Hid (∀ W, Below w.heap.size w W → Rds W (rows x a ++ rows y b)) := Lib.hid (fun W hb => h.below hb)
  have R2 : Hid (∀ W, Below w.heap.size w W → Rds W (rows u c ++ rows v d)) := Lib.hid (fun W hb => h'.below hb)
  clear h h' hxl hxm hyl hym hul hum hvl hvm
  generalize ofO (bothX (binQ mulQ (ofQ 1 2) (bothX (binQ addQ (valx x) (valx u)) (binQ addQ (valx y) (valx v)))) (binQ mulQ (ofQ 1 2) (bothY (binQ addQ (valx x) (valx u)) (binQ addQ (valx y) (valx v))))) = U at HA ⊢
  generalize ofO (bothY (binQ mulQ (ofQ 1 2) (bothX (binQ addQ (valx x) (valx u)) (binQ addQ (valx y) (valx v)))) (binQ mulQ (ofQ 1 2) (bothY (binQ addQ (valx x) (valx u)) (binQ addQ (valx y) (valx v))))) = V at HA ⊢
  have hmf : ∀ (fn : Fn) (first cap : Array Value) (w : World), (Instr.makeFunc fn first cap).run Tryz.prog w = .ok (.func fn first cap) w := fun _ _ _ _ => rfl
  go_enter Tryz.func25, Tryz.ntmps25
  go_wp2_with fail
  have kb := ba3 w (.cells (r6 x y a b) 31) (.cells (r6 u v c d) 31) (.cells z6 31)
  obtain ⟨P_p, P_q, P_o⟩ := blocks3 w (.cells (r6 x y a b) 31) (.cells (r6 u v c d) 31) (.cells z6 31)
  generalize ((w.alloc (.cells (r6 x y a b) 31)).alloc (.cells (r6 u v c d) 31)).alloc (.cells z6 31) = W1 at kb P_p P_q P_o ⊢
  obtain ⟨rr, hrr⟩ : ∃ r, r = w.heap.size + 1 + 1 := ⟨_, rfl⟩
  rw [← hrr] at P_o ⊢
  have hrr3 : w.heap.size ≤ rr := by omega
  have nr_p : rr ≠ w.heap.size := by omega
  have nr_q : rr ≠ w.heap.size + 1 := by omega
  clear hrr
  have hlt0 := rblk_lt P_o
  have hle0 := kb.size
  refine (HA.out _ (R1.out _ kb) (R2.out _ kb)).mono ?_
  rintro e W2 ⟨a3, b3, rfl, hcs, o3, hap3, hb⟩
  replace P_p := rblk_below P_p hb
  replace P_q := rblk_below P_q hb
  replace P_o := rblk_below P_o hb
  replace kb := bt kb hb
  clear hb
  have c_o0 := rblk_cell P_o 0
  have c_o1 := rblk_cell P_o 1
  have c_o2 := rblk_cell P_o 2
  have c_o3 := rblk_cell P_o 3
  have c_o4 := rblk_cell P_o 4
  have c_o5 := rblk_cell P_o 5
  have f_o0 := rblk_free P_o 0
  have f_o1 := rblk_free P_o 1
  have f_o2 := rblk_free P_o 2
  have f_o3 := rblk_free P_o 3
  have f_o4 := rblk_free P_o 4
  have f_o5 := rblk_free P_o 5
  go_wp2
  exact bodyPost_ret (v := .agg (r6 U V a3 b3)) (by simp [results, Tryz.results25, go_sem, c_o0, c_o1, c_o2, c_o3, c_o4, c_o5]) rfl ⟨a3, b3, rfl, hcs, owns_end6 o3 (.inl hlt0) hle0 (Nat.le_refl _) _ _ _ _ _ _, hap3, below_put6 kb hrr3 _ _ _ _ _ _⟩
theorem area_yes (U : R3) (x y u v s t : R3) (a b c d e g : Ad) (w : World) (hxl : x.l.length ≤ 9223372036854775807) (hxm : x.m.length ≤ 9223372036854775807) (hyl : y.l.length ≤ 9223372036854775807) (hym : y.m.length ≤ 9223372036854775807) (hul : u.l.length ≤ 9223372036854775807) (hum : u.m.length ≤ 9223372036854775807) (hvl : v.l.length ≤ 9223372036854775807) (hvm : v.m.length ≤ 9223372036854775807) (hsl : s.l.length ≤ 9223372036854775807) (hsm : s.m.length ≤ 9223372036854775807) (htl : t.l.length ≤ 9223372036854775807) (htm : t.m.length ≤ 9223372036854775807) (h : Rds w (rows x a ++ rows y b)) (h' : Rds w (rows u c ++ rows v d)) (h'' : Rds w (rows s e ++ rows t g)) (k1 : (okx x && okx y) = true) (k2 : (okx u && okx v) = true) (k3 : (okx s && okx t) = true)
    (HM : Hid (∀ W, Rds W (rows x a ++ rows y b) → Rds W (rows u c ++ rows v d) → Rds W (rows s e ++ rows t g) → Calls Tryz.prog 136 #[.agg (r6 x y a b), .agg (r6 u v c d), .agg (r6 s t e g)] W (MadeQ W.heap.size U W))) :
    Calls Tryz.prog 71 #[.agg (r6 x y a b), .agg (r6 u v c d), .agg (r6 s t e g)] w (MadeQ w.heap.size U w) := by
  have H1 := Lib.hid (fun W h => impl_valid x y a b W hxl hxm hyl hym h)
  have H2 := Lib.hid (fun W h => impl_valid u v c d W hul hum hvl hvm h)
  have H3 := Lib.hid (fun W h => impl_valid s t e g W hsl hsm htl htm h)
  have R1 : Hid (∀ W, Below w.heap.size w W → Rds W (rows x a ++ rows y b)) := Lib.hid (fun W hb => h.below hb)
  have R2 : Hid (∀ W, Below w.heap.size w W → Rds W (rows u c ++ rows v d)) := Lib.hid (fun W hb => h'.below hb)
  have R3' : Hid (∀ W, Below w.heap.size w W → Rds W (rows s e ++ rows t g)) := Lib.hid (fun W hb => h''.below hb)
  rw [k1] at H1
  rw [k2] at H2
  rw [k3] at H3
  clear k1 k2 k3
  clear h h' h'' hxl hxm hyl hym hul hum hvl hvm hsl hsm htl htm
  go_enter Tryz.func71, Tryz.ntmps71
  go_wp2_with fail
  have kb := ba4 w (.cells (r6 x y a b) 31) (.cells (r6 u v c d) 31) (.cells (r6 s t e g) 31) (.cells z3 29)
  obtain ⟨P_p, P_q, P_t, P_o⟩ := blocks4 w (.cells (r6 x y a b) 31) (.cells (r6 u v c d) 31) (.cells (r6 s t e g) 31) (.cells z3 29)
  generalize (((w.alloc (.cells (r6 x y a b) 31)).alloc (.cells (r6 u v c d) 31)).alloc (.cells (r6 s t e g) 31)).alloc (.cells z3 29) = W1 at kb P_p P_q P_t P_o ⊢
  obtain ⟨rr, hrr⟩ : ∃ r, r = w.heap.size + 1 + 1 + 1 := ⟨_, rfl⟩
  rw [← hrr] at P_o ⊢
  have hrr3 : w.heap.size ≤ rr := by omega
  have nr_p : rr ≠ w.heap.size := by omega
  have nr_q : rr ≠ w.heap.size + 1 := by omega
  have nr_t : rr ≠ w.heap.size + 1 + 1 := by omega
  clear hrr
  refine (H1.out _ (R1.out _ kb)).mono ?_
  rintro e W2 ⟨rfl, hb⟩
  replace P_p := rblk_below P_p hb
  replace P_q := rblk_below P_q hb
  replace P_t := rblk_below P_t hb
  replace P_o := rblk_below P_o hb
  replace kb := bt kb hb
  clear hb
  have c_q0 := rblk_cell P_q 0
  have c_q1 := rblk_cell P_q 1
  have c_q2 := rblk_cell P_q 2
  have c_q3 := rblk_cell P_q 3
  have c_q4 := rblk_cell P_q 4
  have c_q5 := rblk_cell P_q 5
  go_wp2_with fail
  clear c_q0 c_q1 c_q2 c_q3 c_q4 c_q5
  refine (H2.out _ (R2.out _ kb)).mono ?_
  rintro e W3 ⟨rfl, hb⟩
  replace P_p := rblk_below P_p hb
  replace P_q := rblk_below P_q hb
  replace P_t := rblk_below P_t hb
  replace P_o := rblk_below P_o hb
  replace kb := bt kb hb
  clear hb
  have c_t0 := rblk_cell P_t 0
  have c_t1 := rblk_cell P_t 1
  have c_t2 := rblk_cell P_t 2
  have c_t3 := rblk_cell P_t 3
  have c_t4 := rblk_cell P_t 4
  have c_t5 := rblk_cell P_t 5
  go_wp2_with fail
  clear c_t0 c_t1 c_t2 c_t3 c_t4 c_t5
  refine (H3.out _ (R3'.out _ kb)).mono ?_
  rintro e W4 ⟨rfl, hb⟩
  replace P_p := rblk_below P_p hb
  replace P_q := rblk_below P_q hb
  replace P_t := rblk_below P_t hb
  replace P_o := rblk_below P_o hb
  replace kb := bt kb hb
  clear hb
  have c_p0 := rblk_cell P_p 0
  have c_p1 := rblk_cell P_p 1
  have c_p2 := rblk_cell P_p 2
  have c_p3 := rblk_cell P_p 3
  have c_p4 := rblk_cell P_p 4
  have c_p5 := rblk_cell P_p 5
  have c_q0 := rblk_cell P_q 0
  have c_q1 := rblk_cell P_q 1
  have c_q2 := rblk_cell P_q 2
  have c_q3 := rblk_cell P_q 3
  have c_q4 := rblk_cell P_q 4
  have c_q5 := rblk_cell P_q 5
  have c_t0 := rblk_cell P_t 0
  have c_t1 := rblk_cell P_t 1
  have c_t2 := rblk_cell P_t 2
  have c_t3 := rblk_cell P_t 3
  have c_t4 := rblk_cell P_t 4
  have c_t5 := rblk_cell P_t 5
  go_wp2_with fail
  clear c_p0 c_p1 c_p2 c_p3 c_p4 c_p5 c_q0 c_q1 c_q2 c_q3 c_q4 c_q5 c_t0 c_t1 c_t2 c_t3 c_t4 c_t5
  have hlt0 := rblk_lt P_o
  have hle0 := kb.size
  refine (HM.out _ (R1.out _ kb) (R2.out _ kb) (R3'.out _ kb)).mono ?_
  rintro e W5 ⟨a3, rfl, hc5, hc6, o3, hap3, hb⟩
  replace P_p := rblk_below P_p hb
  replace P_q := rblk_below P_q hb
  replace P_t := rblk_below P_t hb
  replace P_o := rblk_below P_o hb
  replace kb := bt kb hb
  clear hb
  have c_o0 := rblk_cell P_o 0
  have c_o1 := rblk_cell P_o 1
  have c_o2 := rblk_cell P_o 2
  have f_o0 := rblk_free P_o 0
  have f_o1 := rblk_free P_o 1
  have f_o2 := rblk_free P_o 2
  go_wp2
  exact bodyPost_ret (v := .agg (r3 U a3)) (by simp [results, Tryz.results71, go_sem, c_o0, c_o1, c_o2]) rfl ⟨a3, rfl, hc5, hc6, owns_end3 o3 (.inl hlt0) hle0 (Nat.le_refl _) _ _ _, hap3, below_put3 kb hrr3 _ _ _⟩
theorem area_not (x y u v s t : R3) (a b c d e g : Ad) (w : World) (hxl : x.l.length ≤ 9223372036854775807) (hxm : x.m.length ≤ 9223372036854775807) (hyl : y.l.length ≤ 9223372036854775807) (hym : y.m.length ≤ 9223372036854775807) (hul : u.l.length ≤ 9223372036854775807) (hum : u.m.length ≤ 9223372036854775807) (hvl : v.l.length ≤ 9223372036854775807) (hvm : v.m.length ≤ 9223372036854775807) (hsl : s.l.length ≤ 9223372036854775807) (hsm : s.m.length ≤ 9223372036854775807) (htl : t.l.length ≤ 9223372036854775807) (htm : t.m.length ≤ 9223372036854775807) (h : Rds w (rows x a ++ rows y b)) (h' : Rds w (rows u c ++ rows v d)) (h'' : Rds w (rows s e ++ rows t g)) (ok : (okx x && okx y && ((okx u && okx v) && (okx s && okx t))) = false) :
    Calls Tryz.prog 71 #[.agg (r6 x y a b), .agg (r6 u v c d), .agg (r6 s t e g)] w (MadeQ w.heap.size noR w) := by
  have H1 := Lib.hid (fun W h => impl_valid x y a b W hxl hxm hyl hym h)
  have H2 := Lib.hid (fun W h => impl_valid u v c d W hul hum hvl hvm h)
  have H3 := Lib.hid (fun W h => impl_valid s t e g W hsl hsm htl htm h)
  have R1 : Hid (∀ W, Below w.heap.size w W → Rds W (rows x a ++ rows y b)) := Lib.hid (fun W hb => h.below hb)
  have R2 : Hid (∀ W, Below w.heap.size w W → Rds W (rows u c ++ rows v d)) := Lib.hid (fun W hb => h'.below hb)
  have R3' : Hid (∀ W, Below w.heap.size w W → Rds W (rows s e ++ rows t g)) := Lib.hid (fun W hb => h''.below hb)
  clear h h' h'' hxl hxm hyl hym hul hum hvl hvm hsl hsm htl htm
  by_cases k1 : (okx x && okx y) = true
  · rw [k1, Bool.true_and] at ok
    rw [k1] at H1
    by_cases k2 : (okx u && okx v) = true
    · rw [k2, Bool.true_and] at ok
      rw [k2] at H2
      rw [ok] at H3
      clear ok k1 k2
      go_enter Tryz.func71, Tryz.ntmps71
      go_wp2_with fail
      have kb := ba4 w (.cells (r6 x y a b) 31) (.cells (r6 u v c d) 31) (.cells (r6 s t e g) 31) (.cells z3 29)
      obtain ⟨P_p, P_q, P_t, P_o⟩ := blocks4 w (.cells (r6 x y a b) 31) (.cells (r6 u v c d) 31) (.cells (r6 s t e g) 31) (.cells z3 29)
      generalize (((w.alloc (.cells (r6 x y a b) 31)).alloc (.cells (r6 u v c d) 31)).alloc (.cells (r6 s t e g) 31)).alloc (.cells z3 29) = W1 at kb P_p P_q P_t P_o ⊢
      obtain ⟨rr, hrr⟩ : ∃ r, r = w.heap.size + 1 + 1 + 1 := ⟨_, rfl⟩
      rw [← hrr] at P_o ⊢
      have hrr3 : w.heap.size ≤ rr := by omega
      have nr_p : rr ≠ w.heap.size := by omega
      have nr_q : rr ≠ w.heap.size + 1 := by omega
      have nr_t : rr ≠ w.heap.size + 1 + 1 := by omega
      clear hrr
      refine (H1.out _ (R1.out _ kb)).mono ?_
      rintro e W2 ⟨rfl, hb⟩
      replace P_p := rblk_below P_p hb
      replace P_q := rblk_below P_q hb
      replace P_t := rblk_below P_t hb
      replace P_o := rblk_below P_o hb
      replace kb := bt kb hb
      clear hb
      have c_q0 := rblk_cell P_q 0
      have c_q1 := rblk_cell P_q 1
      have c_q2 := rblk_cell P_q 2
      have c_q3 := rblk_cell P_q 3
      have c_q4 := rblk_cell P_q 4
      have c_q5 := rblk_cell P_q 5
      go_wp2_with fail
      clear c_q0 c_q1 c_q2 c_q3 c_q4 c_q5
      refine (H2.out _ (R2.out _ kb)).mono ?_
      rintro e W3 ⟨rfl, hb⟩
      replace P_p := rblk_below P_p hb
      replace P_q := rblk_below P_q hb
      replace P_t := rblk_below P_t hb
      replace P_o := rblk_below P_o hb
      replace kb := bt kb hb
      clear hb
      have c_t0 := rblk_cell P_t 0
      have c_t1 := rblk_cell P_t 1
      have c_t2 := rblk_cell P_t 2
      have c_t3 := rblk_cell P_t 3
      have c_t4 := rblk_cell P_t 4
      have c_t5 := rblk_cell P_t 5
      go_wp2_with fail
      clear c_t0 c_t1 c_t2 c_t3 c_t4 c_t5
      refine (H3.out _ (R3'.out _ kb)).mono ?_
      rintro e W4 ⟨rfl, hb⟩
      replace P_p := rblk_below P_p hb
      replace P_q := rblk_below P_q hb
      replace P_t := rblk_below P_t hb
      replace P_o := rblk_below P_o hb
      replace kb := bt kb hb
      clear hb
      have c_o0 := rblk_cell P_o 0
      have c_o1 := rblk_cell P_o 1
      have c_o2 := rblk_cell P_o 2
      have f_o0 := rblk_free P_o 0
      have f_o1 := rblk_free P_o 1
      have f_o2 := rblk_free P_o 2
      go_wp2
      exact bodyPost_ret (v := .agg z3) (by simp [results, Tryz.results71, go_sem, c_o0, c_o1, c_o2]) rfl (none_rat _ _ _ (below_put3 kb hrr3 _ _ _))
    · have k2' : (okx u && okx v) = false := by simpa using k2
      rw [k2'] at H2
      clear ok k1 k2 k2'
      go_enter Tryz.func71, Tryz.ntmps71
      go_wp2_with fail
      have kb := ba4 w (.cells (r6 x y a b) 31) (.cells (r6 u v c d) 31) (.cells (r6 s t e g) 31) (.cells z3 29)
      obtain ⟨P_p, P_q, P_t, P_o⟩ := blocks4 w (.cells (r6 x y a b) 31) (.cells (r6 u v c d) 31) (.cells (r6 s t e g) 31) (.cells z3 29)
      generalize (((w.alloc (.cells (r6 x y a b) 31)).alloc (.cells (r6 u v c d) 31)).alloc (.cells (r6 s t e g) 31)).alloc (.cells z3 29) = W1 at kb P_p P_q P_t P_o ⊢
      obtain ⟨rr, hrr⟩ : ∃ r, r = w.heap.size + 1 + 1 + 1 := ⟨_, rfl⟩
      rw [← hrr] at P_o ⊢
      have hrr3 : w.heap.size ≤ rr := by omega
      have nr_p : rr ≠ w.heap.size := by omega
      have nr_q : rr ≠ w.heap.size + 1 := by omega
      have nr_t : rr ≠ w.heap.size + 1 + 1 := by omega
      clear hrr
      refine (H1.out _ (R1.out _ kb)).mono ?_
      rintro e W2 ⟨rfl, hb⟩
      replace P_p := rblk_below P_p hb
      replace P_q := rblk_below P_q hb
      replace P_t := rblk_below P_t hb
      replace P_o := rblk_below P_o hb
      replace kb := bt kb hb
      clear hb
      have c_q0 := rblk_cell P_q 0
      have c_q1 := rblk_cell P_q 1
      have c_q2 := rblk_cell P_q 2
      have c_q3 := rblk_cell P_q 3
      have c_q4 := rblk_cell P_q 4
      have c_q5 := rblk_cell P_q 5
      go_wp2_with fail
      clear c_q0 c_q1 c_q2 c_q3 c_q4 c_q5
      refine (H2.out _ (R2.out _ kb)).mono ?_
      rintro e W3 ⟨rfl, hb⟩
      replace P_p := rblk_below P_p hb
      replace P_q := rblk_below P_q hb
      replace P_t := rblk_below P_t hb
      replace P_o := rblk_below P_o hb
      replace kb := bt kb hb
      clear hb
      have c_o0 := rblk_cell P_o 0
      have c_o1 := rblk_cell P_o 1
      have c_o2 := rblk_cell P_o 2
      have f_o0 := rblk_free P_o 0
      have f_o1 := rblk_free P_o 1
      have f_o2 := rblk_free P_o 2
      go_wp2
      exact bodyPost_ret (v := .agg z3) (by simp [results, Tryz.results71, go_sem, c_o0, c_o1, c_o2]) rfl (none_rat _ _ _ (below_put3 kb hrr3 _ _ _))
  · have k1' : (okx x && okx y) = false := by simpa using k1
    rw [k1'] at H1
    clear ok k1 k1'
    go_enter Tryz.func71, Tryz.ntmps71
    go_wp2_with fail
    have kb := ba4 w (.cells (r6 x y a b) 31) (.cells (r6 u v c d) 31) (.cells (r6 s t e g) 31) (.cells z3 29)
    obtain ⟨P_p, P_q, P_t, P_o⟩ := blocks4 w (.cells (r6 x y a b) 31) (.cells (r6 u v c d) 31) (.cells (r6 s t e g) 31) (.cells z3 29)
    generalize (((w.alloc (.cells (r6 x y a b) 31)).alloc (.cells (r6 u v c d) 31)).alloc (.cells (r6 s t e g) 31)).alloc (.cells z3 29) = W1 at kb P_p P_q P_t P_o ⊢
    obtain ⟨rr, hrr⟩ : ∃ r, r = w.heap.size + 1 + 1 + 1 := ⟨_, rfl⟩
    rw [← hrr] at P_o ⊢
    have hrr3 : w.heap.size ≤ rr := by omega
    have nr_p : rr ≠ w.heap.size := by omega
    have nr_q : rr ≠ w.heap.size + 1 := by omega
    have nr_t : rr ≠ w.heap.size + 1 + 1 := by omega
    clear hrr
    refine (H1.out _ (R1.out _ kb)).mono ?_
    rintro e W2 ⟨rfl, hb⟩
    replace P_p := rblk_below P_p hb
    replace P_q := rblk_below P_q hb
    replace P_t := rblk_below P_t hb
    replace P_o := rblk_below P_o hb
    replace kb := bt kb hb
    clear hb
    have c_o0 := rblk_cell P_o 0
    have c_o1 := rblk_cell P_o 1
    have c_o2 := rblk_cell P_o 2
    have f_o0 := rblk_free P_o 0
    have f_o1 := rblk_free P_o 1
    have f_o2 := rblk_free P_o 2
    go_wp2
    exact bodyPost_ret (v := .agg z3) (by simp [results, Tryz.results71, go_sem, c_o0, c_o1, c_o2]) rfl (none_rat _ _ _ (below_put3 kb hrr3 _ _ _))
theorem area_no {x y u v s t : R3} (h : (okx x && okx y && ((okx u && okx v) && (okx s && okx t))) = false) : binQ subQ (binQ mulQ (bothX (binQ subQ (valx u) (valx x)) (binQ subQ (valx v) (valx y))) (bothY (binQ subQ (valx s) (valx x)) (binQ subQ (valx t) (valx y)))) (binQ mulQ (bothY (binQ subQ (valx u) (valx x)) (binQ subQ (valx v) (valx y))) (bothX (binQ subQ (valx s) (valx x)) (binQ subQ (valx t) (valx y)))) = none := by
  by_cases k1 : (okx x && okx y && (okx u && okx v)) = true
  · have k2 : (okx s && okx t) = false := by
      rw [Bool.and_eq_true] at k1
      rw [k1.1, k1.2] at h
      simpa using h
    have k3 : (okx s && okx t && (okx x && okx y)) = false := by rw [k2]; rfl
    rw [(both_no k3).1, (both_no k3).2, bin_n2, bin_n2]; try rfl
  · have k1' : (okx u && okx v && (okx x && okx y)) = false := by rw [Bool.and_comm]; simpa using k1
    rw [(both_no k1').1, (both_no k1').2, bin_n1, bin_n1]; try rfl
theorem impl_areaP (x y u v s t : R3) (a b c d e g : Ad) (w : World) (hxl : x.l.length ≤ 9223372036854775807) (hxm : x.m.length ≤ 9223372036854775807) (hyl : y.l.length ≤ 9223372036854775807) (hym : y.m.length ≤ 9223372036854775807) (hul : u.l.length ≤ 9223372036854775807) (hum : u.m.length ≤ 9223372036854775807) (hvl : v.l.length ≤ 9223372036854775807) (hvm : v.m.length ≤ 9223372036854775807) (hsl : s.l.length ≤ 9223372036854775807) (hsm : s.m.length ≤ 9223372036854775807) (htl : t.l.length ≤ 9223372036854775807) (htm : t.m.length ≤ 9223372036854775807) (h : Rds w (rows x a ++ rows y b)) (h' : Rds w (rows u c ++ rows v d)) (h'' : Rds w (rows s e ++ rows t g)) :
    Calls Tryz.prog 71 #[.agg (r6 x y a b), .agg (r6 u v c d), .agg (r6 s t e g)] w (MadeQ w.heap.size (ofO (binQ subQ (binQ mulQ (bothX (binQ subQ (valx u) (valx x)) (binQ subQ (valx v) (valx y))) (bothY (binQ subQ (valx s) (valx x)) (binQ subQ (valx t) (valx y)))) (binQ mulQ (bothY (binQ subQ (valx u) (valx x)) (binQ subQ (valx v) (valx y))) (bothX (binQ subQ (valx s) (valx x)) (binQ subQ (valx t) (valx y)))))) w) := by
  by_cases ok : (okx x && okx y && ((okx u && okx v) && (okx s && okx t))) = true
  · have ok0 := ok
    simp only [Bool.and_eq_true] at ok
    obtain ⟨⟨k1, k2⟩, ⟨k3, k4⟩, k5, k6⟩ := ok
    clear ok0
    refine area_yes _ x y u v s t a b c d e g w hxl hxm hyl hym hul hum hvl hvm hsl hsm htl htm h h' h'' (by rw [k1, k2]; rfl) (by rw [k3, k4]; rfl) (by rw [k5, k6]; rfl) (Lib.hid fun W h1 h2 h3 => ?_)
    obtain ⟨r1, e1, rfl, f1⟩ := valx_yes k1
    obtain ⟨r2, e2, rfl, f2⟩ := valx_yes k2
    obtain ⟨r3, e3, rfl, f3⟩ := valx_yes k3
    obtain ⟨r4, e4, rfl, f4⟩ := valx_yes k4
    obtain ⟨r5, e5, rfl, f5⟩ := valx_yes k5
    obtain ⟨r6, e6, rfl, f6⟩ := valx_yes k6
    rw [e1, e2, e3, e4, e5, e6]
    exact areaP_r (some r1) (some r2) (some r3) (some r4) (some r5) (some r6) a b c d e g W (fitO_some f1) (fitO_some f2) (fitO_some f3) (fitO_some f4) (fitO_some f5) (fitO_some f6) h1 h2 h3
  · have ok' : (okx x && okx y && ((okx u && okx v) && (okx s && okx t))) = false := by simpa using ok
    rw [area_no ok']
    exact area_not x y u v s t a b c d e g w hxl hxm hyl hym hul hum hvl hvm hsl hsm htl htm h h' h'' ok'
end Go.Proofs.YtppdholccpgcpaaGreat
