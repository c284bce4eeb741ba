/-
  The model's area of a corner list.
-/
import Derived.Test.YtppdholccpgcpaaGreatWg
import Derived.Test.YtppdholccpgcpaaGreatWp
import Derived.Test.YtppdholccpgcpaaGreatTriS
namespace Go.Proofs.YtppdholccpgcpaaGreat
open Go.ChangeShapes Go.WideShapes Go.ChangeAt Go.RowKit
set_option linter.unusedVariables false
set_option linter.unusedSimpArgs false
set_option maxRecDepth 4000
attribute [local go_sem ↓] Go.wp_at_zero Go.wp_at_succ
theorem half_comm (o : Option Rat) : binQ mulQ (ofQ 1 2) o = binQ mulQ o (ofQ 1 2) := by
  cases o with
  | none => cases ofQ 1 2 <;> rfl
  | some r =>
    cases ofQ 1 2 with
    | none => rfl
    | some s => show mulQ s r = mulQ r s; unfold mulQ; rw [Rat.mul_comm]
set_option maxHeartbeats 2000000 in
theorem spec_areaOf (L : List PV) (A : Option Addr) (c : Nat) (w : World) (hn : L.length ≤ 9223372036854775807) (hL : ∀ p, p ∈ L → LenP p) (hC : ∀ p, p ∈ L → CapP p) (hA : RdS w A (flat L)) (hR : Rds w (lrow L)) :
    Calls Tryz.prog 113 #[.slice A L.length c] w (MadeQ w.heap.size (ofO (binQ mulQ (aT L) (ofQ 1 2))) w) := by
  have HP := Lib.hid (fun W h h' => spec_proper L A c W hn hL hC h h')
  have RP : Hid (∀ W, Below w.heap.size w W → RdS W A (flat L) ∧ Rds W (lrow L)) := Lib.hid (fun W hB => ⟨hA.below hB, hR.below hB⟩)
  cases hp : properB L with
  | false =>
    rw [hp] at HP
    rw [aT_no hp, show binQ mulQ none (ofQ 1 2) = none from bin_n1 _ _]
    generalize L.length = n at HP ⊢
    clear hA hR hL hC hn hp
    go_enter Tryz.func113, Tryz.ntmps113
    go_wp2_with fail
    have kb := ba1 w (.cells z3 29)
    have P_o := heap_alloc_new w (.cells z3 29)
    generalize w.alloc (.cells z3 29) = W1 at kb P_o ⊢
    refine (HP.out _ (RP.out _ kb).1 (RP.out _ kb).2).mono ?_
    rintro e W2 ⟨rfl, hb⟩
    replace P_o := rblk_below P_o hb
    replace kb := bt kb hb
    clear hb
    have c_o0 := rblk_cell P_o 0
    have c_o1 := rblk_cell P_o 1
    have c_o2 := rblk_cell P_o 2
    have f_o0 := rblk_free P_o 0
    have f_o1 := rblk_free P_o 1
    have f_o2 := rblk_free P_o 2
    go_wp2
    exact bodyPost_ret (v := .agg z3) (by simp [results, Tryz.results113, go_sem, c_o0, c_o1, c_o2]) rfl (none_rat _ _ _ (below_put (below_put (below_put kb (by omega) _) (by omega) _) (by omega) _))
  | true =>
    obtain ⟨p, q, r, rfl, _, _⟩ := properB_three hp
    obtain ⟨g, o, rfl, hg, c0, c1, c2, c3, c4, c5, c6, c7, c8, c9, c10, c11, c12, c13, c14, c15, c16, c17⟩ := hA.tri
    rw [hp] at HP
    rw [aT_yes hp, ← half_comm]
    have HA := Lib.hid (fun W h1 h2 h3 => spec_areaV p q r W (hL p (by simp)) (hL q (by simp)) (hL r (by simp)) (hC p (by simp)) (hC q (by simp)) (hC r (by simp)) h1 h2 h3)
    have HR := Lib.hid (fun W => show Calls Tryz.prog 118 #[.int .i64 1, .int .i64 2] W (MadeQ W.heap.size (ofO (ofQ 1 2)) W) from (spec_rof 1 2 W (by decide) (by decide)).mono fun e w' k => MadeR.toQ (x := ofO (ofQ 1 2)) k)
    have hsh := (aV_fit p q r).len
    have hsh2 := (ofQ_fit 1 2).len
    have HM := Lib.hid (fun a b W h h' => spec_rmul_r (ofO (ofQ 1 2)) (ofO (aV p q r)) a b W (by omega) (by omega) (by omega) (by omega) h h')
    rw [valx_ofO (aV_fit p q r), valx_ofO (ofQ_fit 1 2)] at HM
    have RR : Hid (∀ W, Below w.heap.size w W → Rds W (prow p) ∧ Rds W (prow q) ∧ Rds W (prow r)) := Lib.hid (fun W hB => ⟨(hR.at (i := 0) rfl).below hB, (hR.at (i := 1) rfl).below hB, (hR.at (i := 2) rfl).below hB⟩)
    have SL : Hid (∀ w', Below w.heap.size w w' → (w'.cell? ⟨g, o, none⟩ = some (.bool p.x.p) ∧ w'.cell? ⟨g, o + 1, none⟩ = some (.slice p.a.A p.x.l.length p.a.c) ∧ w'.cell? ⟨g, o + 2, none⟩ = some (.slice p.a.D p.x.m.length p.a.d) ∧ w'.cell? ⟨g, o + 3, none⟩ = some (.bool p.y.p) ∧ w'.cell? ⟨g, o + 4, none⟩ = some (.slice p.b.A p.y.l.length p.b.c) ∧ w'.cell? ⟨g, o + 5, none⟩ = some (.slice p.b.D p.y.m.length p.b.d) ∧ w'.cell? ⟨g, o + 6, none⟩ = some (.bool q.x.p) ∧ w'.cell? ⟨g, o + 7, none⟩ = some (.slice q.a.A q.x.l.length q.a.c) ∧ w'.cell? ⟨g, o + 8, none⟩ = some (.slice q.a.D q.x.m.length q.a.d) ∧ w'.cell? ⟨g, o + 9, none⟩ = some (.bool q.y.p) ∧ w'.cell? ⟨g, o + 10, none⟩ = some (.slice q.b.A q.y.l.length q.b.c) ∧ w'.cell? ⟨g, o + 11, none⟩ = some (.slice q.b.D q.y.m.length q.b.d) ∧ w'.cell? ⟨g, o + 12, none⟩ = some (.bool r.x.p) ∧ w'.cell? ⟨g, o + 13, none⟩ = some (.slice r.a.A r.x.l.length r.a.c) ∧ w'.cell? ⟨g, o + 14, none⟩ = some (.slice r.a.D r.x.m.length r.a.d) ∧ w'.cell? ⟨g, o + 15, none⟩ = some (.bool r.y.p) ∧ w'.cell? ⟨g, o + 16, none⟩ = some (.slice r.b.A r.y.l.length r.b.c) ∧ w'.cell? ⟨g, o + 17, none⟩ = some (.slice r.b.D r.y.m.length r.b.d))) := Lib.hid (fun w' hB => ⟨below_cell hB c0, below_cell hB c1, below_cell hB c2, below_cell hB c3, below_cell hB c4, below_cell hB c5, below_cell hB c6, below_cell hB c7, below_cell hB c8, below_cell hB c9, below_cell hB c10, below_cell hB c11, below_cell hB c12, below_cell hB c13, below_cell hB c14, below_cell hB c15, below_cell hB c16, below_cell hB c17⟩)
    show Calls Tryz.prog 113 #[.slice (some ⟨g, o, none⟩) 3 c] w (MadeQ w.heap.size (ofO (binQ mulQ (ofQ 1 2) (aV p q r))) w)
    generalize ofO (binQ mulQ (ofQ 1 2) (aV p q r)) = V at HM ⊢
    generalize ofO (aV p q r) = U at HA HM
    generalize ofO (ofQ 1 2) = H at HR HM
    unfold MadeQ at HA HR HM
    have hgl : g < w.heap.size := hg
    clear hA hR hL hC hn hp hsh hsh2 c0 c1 c2 c3 c4 c5 c6 c7 c8 c9 c10 c11 c12 c13 c14 c15 c16 c17
    go_enter Tryz.func113, Tryz.ntmps113
    go_wp2_with fail
    have kb := ba1 w (.cells z3 29)
    have P_o := heap_alloc_new w (.cells z3 29)
    generalize w.alloc (.cells z3 29) = W1 at kb P_o ⊢
    obtain ⟨rr, hrr⟩ : ∃ r, r = w.heap.size := ⟨_, rfl⟩
    rw [← hrr] at P_o ⊢
    have hrr3 : w.heap.size ≤ rr := by omega
    clear hrr
    refine (HP.out _ (RP.out _ kb).1 (RP.out _ kb).2).mono ?_
    rintro e W2 ⟨rfl, hb⟩
    replace P_o := rblk_below P_o hb
    replace kb := bt kb hb
    clear hb
    obtain ⟨c0, c1, c2, c3, c4, c5, c6, c7, c8, c9, c10, c11, c12, c13, c14, c15, c16, c17⟩ := SL.out _ kb
    go_wp2_with fail
    have nr_g : rr ≠ g := by omega
    have hlt0 := rblk_lt P_o
    have hle0 := kb.size
    have SB : Hid (∀ w', Keep3 W2 w' rr → (w'.cell? ⟨g, o, none⟩ = some (.bool p.x.p) ∧ w'.cell? ⟨g, o + 1, none⟩ = some (.slice p.a.A p.x.l.length p.a.c) ∧ w'.cell? ⟨g, o + 2, none⟩ = some (.slice p.a.D p.x.m.length p.a.d) ∧ w'.cell? ⟨g, o + 3, none⟩ = some (.bool p.y.p) ∧ w'.cell? ⟨g, o + 4, none⟩ = some (.slice p.b.A p.y.l.length p.b.c) ∧ w'.cell? ⟨g, o + 5, none⟩ = some (.slice p.b.D p.y.m.length p.b.d) ∧ w'.cell? ⟨g, o + 6, none⟩ = some (.bool q.x.p) ∧ w'.cell? ⟨g, o + 7, none⟩ = some (.slice q.a.A q.x.l.length q.a.c) ∧ w'.cell? ⟨g, o + 8, none⟩ = some (.slice q.a.D q.x.m.length q.a.d) ∧ w'.cell? ⟨g, o + 9, none⟩ = some (.bool q.y.p) ∧ w'.cell? ⟨g, o + 10, none⟩ = some (.slice q.b.A q.y.l.length q.b.c) ∧ w'.cell? ⟨g, o + 11, none⟩ = some (.slice q.b.D q.y.m.length q.b.d) ∧ w'.cell? ⟨g, o + 12, none⟩ = some (.bool r.x.p) ∧ w'.cell? ⟨g, o + 13, none⟩ = some (.slice r.a.A r.x.l.length r.a.c) ∧ w'.cell? ⟨g, o + 14, none⟩ = some (.slice r.a.D r.x.m.length r.a.d) ∧ w'.cell? ⟨g, o + 15, none⟩ = some (.bool r.y.p) ∧ w'.cell? ⟨g, o + 16, none⟩ = some (.slice r.b.A r.y.l.length r.b.c) ∧ w'.cell? ⟨g, o + 17, none⟩ = some (.slice r.b.D r.y.m.length r.b.d) ∧ Keep3 W2 w' rr)) := Lib.hid (fun w' hK => ⟨hK.cell c0 nr_g, hK.cell c1 nr_g, hK.cell c2 nr_g, hK.cell c3 nr_g, hK.cell c4 nr_g, hK.cell c5 nr_g, hK.cell c6 nr_g, hK.cell c7 nr_g, hK.cell c8 nr_g, hK.cell c9 nr_g, hK.cell c10 nr_g, hK.cell c11 nr_g, hK.cell c12 nr_g, hK.cell c13 nr_g, hK.cell c14 nr_g, hK.cell c15 nr_g, hK.cell c16 nr_g, hK.cell c17 nr_g, hK⟩)
    have KW := Lib.hid kb
    have KST := Keep3.start P_o
    clear kb
    go_region_held3 (fun w' => w'.cell? ⟨g, o, none⟩ = some (.bool p.x.p) ∧ w'.cell? ⟨g, o + 1, none⟩ = some (.slice p.a.A p.x.l.length p.a.c) ∧ w'.cell? ⟨g, o + 2, none⟩ = some (.slice p.a.D p.x.m.length p.a.d) ∧ w'.cell? ⟨g, o + 3, none⟩ = some (.bool p.y.p) ∧ w'.cell? ⟨g, o + 4, none⟩ = some (.slice p.b.A p.y.l.length p.b.c) ∧ w'.cell? ⟨g, o + 5, none⟩ = some (.slice p.b.D p.y.m.length p.b.d) ∧ w'.cell? ⟨g, o + 6, none⟩ = some (.bool q.x.p) ∧ w'.cell? ⟨g, o + 7, none⟩ = some (.slice q.a.A q.x.l.length q.a.c) ∧ w'.cell? ⟨g, o + 8, none⟩ = some (.slice q.a.D q.x.m.length q.a.d) ∧ w'.cell? ⟨g, o + 9, none⟩ = some (.bool q.y.p) ∧ w'.cell? ⟨g, o + 10, none⟩ = some (.slice q.b.A q.y.l.length q.b.c) ∧ w'.cell? ⟨g, o + 11, none⟩ = some (.slice q.b.D q.y.m.length q.b.d) ∧ w'.cell? ⟨g, o + 12, none⟩ = some (.bool r.x.p) ∧ w'.cell? ⟨g, o + 13, none⟩ = some (.slice r.a.A r.x.l.length r.a.c) ∧ w'.cell? ⟨g, o + 14, none⟩ = some (.slice r.a.D r.x.m.length r.a.d) ∧ w'.cell? ⟨g, o + 15, none⟩ = some (.bool r.y.p) ∧ w'.cell? ⟨g, o + 16, none⟩ = some (.slice r.b.A r.y.l.length r.b.c) ∧ w'.cell? ⟨g, o + 17, none⟩ = some (.slice r.b.D r.y.m.length r.b.d) ∧ Keep3 W2 w' rr)
      (first | (with_reducible exact SB.out _ KST.drew) | (with_reducible exact SB.out _ KST) | (go_split_ands; with_reducible refine SB.out _ ?_; with_reducible refine Keep3.put3 ?_ _ _ _; with_reducible assumption) | (with_reducible exact SB.out _ (KST.below (ba1 _ _))) | (with_reducible exact SB.out _ (KST.drew.below (ba1 _ _))) | (go_split_ands; with_reducible exact SB.out _ (Keep3.below (by assumption : Keep3 W2 _ rr) hb)) | (go_split_ands; with_reducible exact SB.out _ (Keep3.below (by assumption : Keep3 W2 _ rr) (ba1 _ _))))
      (first | (go_at_call 118; go_split_ands; ((with_reducible refine (HR.out _).mono ?_); rintro e Wq0 ⟨a1, rfl, hc1, hc2, o1, hap1, hb⟩; skip)) | (go_at_call 100; go_split_ands; ((with_reducible refine (HA.out _ (RR.out _ (Keep3.base (by assumption : Keep3 W2 _ rr) KW.out hrr3)).1 (RR.out _ (Keep3.base (by assumption : Keep3 W2 _ rr) KW.out hrr3)).2.1 (RR.out _ (Keep3.base (by assumption : Keep3 W2 _ rr) KW.out hrr3)).2.2).mono ?_); rintro e Wq1 ⟨a2, rfl, hc3, hc4, o2, hap2, hb⟩; (first | (with_reducible replace o1 := o1.below hb) | (with_reducible replace o1 := (Owns.drew o1).below hb) | (with_reducible replace o1 := (o1.below (ba1 _ _)).below hb) | (with_reducible replace o1 := (Owns.drew (o1.below (ba1 _ _))).below hb)))) | (go_at_call 114; go_split_ands; ((with_reducible refine (HM.out _ _ _ (by first | with_reducible exact o1.rds | with_reducible exact (Owns.drew o1).rds | with_reducible exact (o1.below (ba1 _ _)).rds | with_reducible exact (Owns.drew (o1.below (ba1 _ _))).rds) (by first | with_reducible exact o2.rds | with_reducible exact (Owns.drew o2).rds | with_reducible exact (o2.below (ba1 _ _)).rds | with_reducible exact (Owns.drew (o2.below (ba1 _ _))).rds)).mono ?_); rintro e Wq2 ⟨a3, rfl, hc5, hc6, o3, hap3, hb⟩; have hz0 := Keep3.size (by assumption : Keep3 W2 _ rr); have KL := Keep3.below (by assumption : Keep3 W2 _ rr) hb; obtain ⟨u0, u1, u2, t0, t1, t2, t3, t4, t5⟩ := KL.cells)))
    all_goals
      have hfin := (‹_ ∧ _ ∧ _ ∧ _ ∧ _ ∧ _ ∧ _ ∧ _ ∧ _ ∧ _ ∧ _ ∧ _ ∧ _ ∧ _ ∧ _ ∧ _ ∧ _ ∧ _ ∧ Keep3 W2 _ rr›).2.2.2.2.2.2.2.2.2.2.2.2.2.2.2.2.2.2
      go_wp2
      exact bodyPost_ret (v := .agg (r3 V a3)) (by simp [results, Tryz.results113, go_sem, t0, t1, t2, t3, t4, t5]) rfl ⟨a3, rfl, hc5, hc6, owns_end3 o3 (.inl (Nat.lt_of_lt_of_le hlt0 hz0)) (Nat.le_trans hle0 hz0) (Nat.le_refl _) _ _ _, hap3, hfin.base KW.out hrr3⟩
end Go.Proofs.YtppdholccpgcpaaGreat
