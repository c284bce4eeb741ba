/-
  Copies of points, of both sides.
-/
import Derived.Test.YtenjjojbjpmhbaaCpM
import Derived.Test.YtenjjojbjpmhbaaSl
namespace Go.Proofs.Ytenjjojbjpmhbaa
open Go.ChangeShapes Go.WideShapes Go.ChangeAt Go.RowKit
open Go.ChangeMaps (open_string shut_string)
set_option linter.unusedVariables false
set_option linter.unusedSimpArgs false
set_option maxRecDepth 4000

set_option maxHeartbeats 2000000 in
theorem copiedP (p : PV) (w : World) (hs : ShortP p) (h : Rds w (prow p)) :
    Calls Try.prog 26 #[.agg #[.bool p.x.p, .slice p.a.A p.x.l.length p.a.c, .slice p.a.D p.x.m.length p.a.d, .bool p.y.p, .slice p.b.A p.y.l.length p.b.c, .slice p.b.D p.y.m.length p.b.d]] w (MadeP w.heap.size p.x p.y w) := by
  have CX := Lib.hid (fun W h => copied_x p.x p.a W hs.1 h)
  have CY := Lib.hid (fun W h => copied_x p.y p.b W hs.2 h)
  have RR : Hid (∀ W, Below w.heap.size w W → Rds W (rows p.x p.a) ∧ Rds W (rows p.y p.b)) := Lib.hid (fun W hb => ⟨(rds_l h).below hb, (rds_r h).below hb⟩)
  clear h hs
  unfold MadeQ at CX CY
  go_enter Try.func26, Try.ntmps26
  go_wp2_with fail
  have kb := ba2 w (.cells #[.bool p.x.p, .slice p.a.A p.x.l.length p.a.c, .slice p.a.D p.x.m.length p.a.d, .bool p.y.p, .slice p.b.A p.y.l.length p.b.c, .slice p.b.D p.y.m.length p.b.d] 51) (.cells #[.bool false, .slice none 0 0, .slice none 0 0, .bool false, .slice none 0 0, .slice none 0 0] 51)
  obtain ⟨P_a, P_o⟩ := blocks2 w (.cells #[.bool p.x.p, .slice p.a.A p.x.l.length p.a.c, .slice p.a.D p.x.m.length p.a.d, .bool p.y.p, .slice p.b.A p.y.l.length p.b.c, .slice p.b.D p.y.m.length p.b.d] 51) (.cells #[.bool false, .slice none 0 0, .slice none 0 0, .bool false, .slice none 0 0, .slice none 0 0] 51)
  generalize (w.alloc (.cells #[.bool p.x.p, .slice p.a.A p.x.l.length p.a.c, .slice p.a.D p.x.m.length p.a.d, .bool p.y.p, .slice p.b.A p.y.l.length p.b.c, .slice p.b.D p.y.m.length p.b.d] 51)).alloc (.cells #[.bool false, .slice none 0 0, .slice none 0 0, .bool false, .slice none 0 0, .slice none 0 0] 51) = W1 at kb P_a P_o ⊢
  obtain ⟨rr, hrr⟩ : ∃ r, r = w.heap.size + 1 := ⟨_, rfl⟩
  rw [← hrr] at P_o ⊢
  have hrr3 : w.heap.size ≤ rr := by omega
  have nr_a : rr ≠ w.heap.size := by omega
  clear hrr
  have hlt1 := rblk_lt P_o
  have hle1 := kb.size
  have SB : Hid (∀ w', Keep6 W1 w' rr → (w'.cell? ⟨w.heap.size, 0, none⟩ = some (.bool p.x.p) ∧ w'.cell? ⟨w.heap.size, 1, none⟩ = some (.slice p.a.A p.x.l.length p.a.c) ∧ w'.cell? ⟨w.heap.size, 2, none⟩ = some (.slice p.a.D p.x.m.length p.a.d) ∧ w'.cell? ⟨w.heap.size, 3, none⟩ = some (.bool p.y.p) ∧ w'.cell? ⟨w.heap.size, 4, none⟩ = some (.slice p.b.A p.y.l.length p.b.c) ∧ w'.cell? ⟨w.heap.size, 5, none⟩ = some (.slice p.b.D p.y.m.length p.b.d) ∧ Keep6 W1 w' rr)) := Lib.hid (fun w' hK => ⟨rblk_cell (hK.block P_a nr_a) 0, rblk_cell (hK.block P_a nr_a) 1, rblk_cell (hK.block P_a nr_a) 2, rblk_cell (hK.block P_a nr_a) 3, rblk_cell (hK.block P_a nr_a) 4, rblk_cell (hK.block P_a nr_a) 5, hK⟩)
  have KW := Lib.hid kb
  have KST := Keep6.start P_o
  clear kb
  go_region_held3 (fun w' => w'.cell? ⟨w.heap.size, 0, none⟩ = some (.bool p.x.p) ∧ w'.cell? ⟨w.heap.size, 1, none⟩ = some (.slice p.a.A p.x.l.length p.a.c) ∧ w'.cell? ⟨w.heap.size, 2, none⟩ = some (.slice p.a.D p.x.m.length p.a.d) ∧ w'.cell? ⟨w.heap.size, 3, none⟩ = some (.bool p.y.p) ∧ w'.cell? ⟨w.heap.size, 4, none⟩ = some (.slice p.b.A p.y.l.length p.b.c) ∧ w'.cell? ⟨w.heap.size, 5, none⟩ = some (.slice p.b.D p.y.m.length p.b.d) ∧ Keep6 W1 w' rr)
    (first | (with_reducible exact SB.out _ KST.drew) | (with_reducible exact SB.out _ KST) | (go_split_ands; with_reducible refine SB.out _ ?_; with_reducible refine Keep6.put6 ?_ _ _ _ _ _ _; with_reducible assumption) | (with_reducible exact SB.out _ (KST.below (ba1 _ _))) | (with_reducible exact SB.out _ (KST.drew.below (ba1 _ _))) | (go_split_ands; with_reducible exact SB.out _ (Keep6.below (by assumption : Keep6 W1 _ rr) hb)) | (go_split_ands; with_reducible exact SB.out _ (Keep6.below (by assumption : Keep6 W1 _ rr) (ba1 _ _))))
    (first | (go_at_call 41; go_split_ands; ((with_reducible refine (CX.out _ (RR.out _ (Keep6.base (by assumption : Keep6 W1 _ rr) KW.out hrr3)).1).mono ?_); rintro e Wn1_0 ⟨b1, rfl, hc1, hc2, o1, hap1, hb⟩; have hz1 := hb.size)) | (go_at_call 41; go_split_ands; ((with_reducible refine (CY.out _ (RR.out _ (Keep6.base (by assumption : Keep6 W1 _ rr) KW.out hrr3)).2).mono ?_); rintro e Wn1_1 ⟨b2, rfl, hc3, hc4, o2, hap2, hb⟩; have hz2 := hb.size; (first | (with_reducible replace o1 := o1.below hb) | (with_reducible replace o1 := (Owns.drew o1).below hb) | (with_reducible replace o1 := (o1.below (ba1 _ _)).below hb) | (with_reducible replace o1 := (Owns.drew (o1.below (ba1 _ _))).below hb)); have KL := Keep6.below (by assumption : Keep6 W1 _ rr) hb; obtain ⟨u0, u1, u2, u3, u4, u5, t0, t1, t2, t3, t4, t5, t6, t7, t8, t9, t10, t11⟩ := KL.cells)))
  all_goals
    have hfin := (‹_ ∧ _ ∧ _ ∧ _ ∧ _ ∧ _ ∧ Keep6 W1 _ rr›).2.2.2.2.2.2
    go_wp2
    exact bodyPost_ret (v := .agg #[.bool p.x.p, .slice b1.A p.x.l.length b1.c, .slice b1.D p.x.m.length b1.d, .bool p.y.p, .slice b2.A p.y.l.length b2.c, .slice b2.D p.y.m.length b2.d]) (by simp [results, Try.results26, go_sem, t6, t7, t8, t9, t10, t11, t0, t1, t2, t3, t4, t5]) rfl ⟨b1, b2, rfl, ⟨hc1, hc2, hc3, hc4⟩, owns_end6 (Owns.app (o1.wide (Nat.le_refl _) hz2) (o2.wide hz1 (Nat.le_refl _))) (.inl hlt1) hle1 (Nat.le_refl _) _ _ _ _ _ _, Aparts.app hap1 hap2 o1 o2, hfin.base KW.out hrr3⟩
set_option maxHeartbeats 2000000 in
theorem lcopyP (p : PV) (w : World) (hs : ShortP p) (h : Rds w (prow p)) :
    Calls Try.prog 20 #[.agg #[.bool p.x.p, .slice p.a.A p.x.l.length p.a.c, .slice p.a.D p.x.m.length p.a.d, .bool p.y.p, .slice p.b.A p.y.l.length p.b.c, .slice p.b.D p.y.m.length p.b.d]] w (MadeP w.heap.size p.x p.y w) := by
  have CX := Lib.hid (fun W h => lcopy_x p.x p.a W hs.1 h)
  have CY := Lib.hid (fun W h => lcopy_x p.y p.b W hs.2 h)
  have RR : Hid (∀ W, Below w.heap.size w W → Rds W (rows p.x p.a) ∧ Rds W (rows p.y p.b)) := Lib.hid (fun W hb => ⟨(rds_l h).below hb, (rds_r h).below hb⟩)
  clear h hs
  unfold MadeQ at CX CY
  go_enter Try.func20, Try.ntmps20
  go_wp2_with fail
  have kb := ba2 w (.cells #[.bool p.x.p, .slice p.a.A p.x.l.length p.a.c, .slice p.a.D p.x.m.length p.a.d, .bool p.y.p, .slice p.b.A p.y.l.length p.b.c, .slice p.b.D p.y.m.length p.b.d] 51) (.cells #[.bool false, .slice none 0 0, .slice none 0 0, .bool false, .slice none 0 0, .slice none 0 0] 51)
  obtain ⟨P_a, P_o⟩ := blocks2 w (.cells #[.bool p.x.p, .slice p.a.A p.x.l.length p.a.c, .slice p.a.D p.x.m.length p.a.d, .bool p.y.p, .slice p.b.A p.y.l.length p.b.c, .slice p.b.D p.y.m.length p.b.d] 51) (.cells #[.bool false, .slice none 0 0, .slice none 0 0, .bool false, .slice none 0 0, .slice none 0 0] 51)
  generalize (w.alloc (.cells #[.bool p.x.p, .slice p.a.A p.x.l.length p.a.c, .slice p.a.D p.x.m.length p.a.d, .bool p.y.p, .slice p.b.A p.y.l.length p.b.c, .slice p.b.D p.y.m.length p.b.d] 51)).alloc (.cells #[.bool false, .slice none 0 0, .slice none 0 0, .bool false, .slice none 0 0, .slice none 0 0] 51) = W1 at kb P_a P_o ⊢
  obtain ⟨rr, hrr⟩ : ∃ r, r = w.heap.size + 1 := ⟨_, rfl⟩
  rw [← hrr] at P_o ⊢
  have hrr3 : w.heap.size ≤ rr := by omega
  have nr_a : rr ≠ w.heap.size := by omega
  clear hrr
  have hlt1 := rblk_lt P_o
  have hle1 := kb.size
  have SB : Hid (∀ w', Keep6 W1 w' rr → (w'.cell? ⟨w.heap.size, 0, none⟩ = some (.bool p.x.p) ∧ w'.cell? ⟨w.heap.size, 1, none⟩ = some (.slice p.a.A p.x.l.length p.a.c) ∧ w'.cell? ⟨w.heap.size, 2, none⟩ = some (.slice p.a.D p.x.m.length p.a.d) ∧ w'.cell? ⟨w.heap.size, 3, none⟩ = some (.bool p.y.p) ∧ w'.cell? ⟨w.heap.size, 4, none⟩ = some (.slice p.b.A p.y.l.length p.b.c) ∧ w'.cell? ⟨w.heap.size, 5, none⟩ = some (.slice p.b.D p.y.m.length p.b.d) ∧ Keep6 W1 w' rr)) := Lib.hid (fun w' hK => ⟨rblk_cell (hK.block P_a nr_a) 0, rblk_cell (hK.block P_a nr_a) 1, rblk_cell (hK.block P_a nr_a) 2, rblk_cell (hK.block P_a nr_a) 3, rblk_cell (hK.block P_a nr_a) 4, rblk_cell (hK.block P_a nr_a) 5, hK⟩)
  have KW := Lib.hid kb
  have KST := Keep6.start P_o
  clear kb
  go_region_held3 (fun w' => w'.cell? ⟨w.heap.size, 0, none⟩ = some (.bool p.x.p) ∧ w'.cell? ⟨w.heap.size, 1, none⟩ = some (.slice p.a.A p.x.l.length p.a.c) ∧ w'.cell? ⟨w.heap.size, 2, none⟩ = some (.slice p.a.D p.x.m.length p.a.d) ∧ w'.cell? ⟨w.heap.size, 3, none⟩ = some (.bool p.y.p) ∧ w'.cell? ⟨w.heap.size, 4, none⟩ = some (.slice p.b.A p.y.l.length p.b.c) ∧ w'.cell? ⟨w.heap.size, 5, none⟩ = some (.slice p.b.D p.y.m.length p.b.d) ∧ Keep6 W1 w' rr)
    (first | (with_reducible exact SB.out _ KST.drew) | (with_reducible exact SB.out _ KST) | (go_split_ands; with_reducible refine SB.out _ ?_; with_reducible refine Keep6.put6 ?_ _ _ _ _ _ _; with_reducible assumption) | (with_reducible exact SB.out _ (KST.below (ba1 _ _))) | (with_reducible exact SB.out _ (KST.drew.below (ba1 _ _))) | (go_split_ands; with_reducible exact SB.out _ (Keep6.below (by assumption : Keep6 W1 _ rr) hb)) | (go_split_ands; with_reducible exact SB.out _ (Keep6.below (by assumption : Keep6 W1 _ rr) (ba1 _ _))))
    (first | (go_at_call 37; go_split_ands; ((with_reducible refine (CX.out _ (RR.out _ (Keep6.base (by assumption : Keep6 W1 _ rr) KW.out hrr3)).1).mono ?_); rintro e Wn1_0 ⟨b1, rfl, hc1, hc2, o1, hap1, hb⟩; have hz1 := hb.size)) | (go_at_call 37; go_split_ands; ((with_reducible refine (CY.out _ (RR.out _ (Keep6.base (by assumption : Keep6 W1 _ rr) KW.out hrr3)).2).mono ?_); rintro e Wn1_1 ⟨b2, rfl, hc3, hc4, o2, hap2, hb⟩; have hz2 := hb.size; (first | (with_reducible replace o1 := o1.below hb) | (with_reducible replace o1 := (Owns.drew o1).below hb) | (with_reducible replace o1 := (o1.below (ba1 _ _)).below hb) | (with_reducible replace o1 := (Owns.drew (o1.below (ba1 _ _))).below hb)); have KL := Keep6.below (by assumption : Keep6 W1 _ rr) hb; obtain ⟨u0, u1, u2, u3, u4, u5, t0, t1, t2, t3, t4, t5, t6, t7, t8, t9, t10, t11⟩ := KL.cells)))
  all_goals
    have hfin := (‹_ ∧ _ ∧ _ ∧ _ ∧ _ ∧ _ ∧ Keep6 W1 _ rr›).2.2.2.2.2.2
    go_wp2
    exact bodyPost_ret (v := .agg #[.bool p.x.p, .slice b1.A p.x.l.length b1.c, .slice b1.D p.x.m.length b1.d, .bool p.y.p, .slice b2.A p.y.l.length b2.c, .slice b2.D p.y.m.length b2.d]) (by simp [results, Try.results20, go_sem, t6, t7, t8, t9, t10, t11, t0, t1, t2, t3, t4, t5]) rfl ⟨b1, b2, rfl, ⟨hc1, hc2, hc3, hc4⟩, owns_end6 (Owns.app (o1.wide (Nat.le_refl _) hz2) (o2.wide hz1 (Nat.le_refl _))) (.inl hlt1) hle1 (Nat.le_refl _) _ _ _ _ _ _, Aparts.app hap1 hap2 o1 o2, hfin.base KW.out hrr3⟩
end Go.Proofs.Ytenjjojbjpmhbaa
