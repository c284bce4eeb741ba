/-
  Sign, inverse and quotient of the program's fractions, in bundled words, where there may be none.
-/
import Derived.Test.YtppdholccpgcpaaGreatWg
import Derived.Test.YtppdholccpgcpaaGreatLawP
import Derived.Test.YtppdholccpgcpaaGreatPtK
import Derived.Test.YtppdholccpgcpaaGreatPkH
import Derived.Test.YtppdholccpgcpaaGreatPkF
namespace Go.Proofs.YtppdholccpgcpaaGreat
open Go.ChangeShapes Go.WideShapes Go.ChangeAt Go.RowKit
set_option linter.unusedVariables false
set_option linter.unusedSimpArgs false
set_option maxRecDepth 4000
attribute [local go_sem ↓] Go.wp_at_zero Go.wp_at_succ
theorem sign_r (x : Option Rat) (a : Ad) (w : World) (hx : FitO x) (h : Rds w (rows (ofO x) a)) :
    Calls Tryz.prog 72 #[.agg (r3 (ofO x) a)] w (fun e w' => e = .returned (.int .i64 (sgnO x)) ∧ Below w.heap.size w w') := by
  cases x with
  | none => exact sign_any 0 a.A a.D 0 0 a.c a.d w ln_zero (by omega) (by rw [show (0 : Int).natAbs = 0 from rfl, nd_zero]; exact .inl rfl)
  | some r =>
    have hl := hx.len
    exact sign_any r.num a.A a.D _ _ a.c a.d w (nd_length _).symm (Nat.le_trans hl.1 (by omega)) (rows_rd h).1
def invO : Option Rat → Option Rat
  | none => none
  | some r => invQ r
theorem invO_fit {x : Option Rat} (h : FitO x) : FitO (invO x) := by
  cases x with
  | none => exact fitO_none
  | some r => exact invQ_fit (h r rfl)
theorem mul_invO (x y : Option Rat) : binQ mulQ x (invO y) = binQ quoQ x y := by
  cases y with
  | none => cases x <;> rfl
  | some s =>
    cases x with
    | none => show binQ mulQ none (invQ s) = none; cases invQ s <;> rfl
    | some r =>
      show binQ mulQ (some r) (invQ s) = quoQ r s
      rw [← mulO_inv]
      cases invQ s <;> rfl
theorem inverse_r (y : Option Rat) (b : Ad) (w : World) (hy : FitO y) (h : Rds w (rows (ofO y) b)) :
    Calls Tryz.prog 133 #[.agg (r3 (ofO y) b)] w (MadeQ w.heap.size (ofO (invO y)) w) := by
  cases y with
  | none => exact (inverse_no 0 b.A b.D 0 0 b.c b.d w rfl ln_zero (.inl (by show vi (nd 0) = []; rw [nd_zero]; rfl))).mono fun e w' k => MadeR.toQ (x := noR) k
  | some s => exact (inverse_q s b.A b.D _ _ b.c b.d w (hy s rfl) (nd_length _).symm (nd_length _).symm (rows_rd h).1 (rows_rd h).2).mono fun e w' k => MadeR.toQ (x := ofO (invQ s)) k
set_option maxHeartbeats 1000000 in
theorem over_r (x y : Option Rat) (a b : Ad) (w : World) (hx : FitO x) (hy : FitO y) (h : Rds w (rows (ofO x) a)) (h' : Rds w (rows (ofO y) b)) :
    Calls Tryz.prog 131 #[.agg (r3 (ofO x) a), .agg (r3 (ofO y) b)] w (MadeQ w.heap.size (ofO (binQ quoQ x y)) w) := by
  have HX := Lib.hid (fun W h => inverse_r y b W hy h)
  have HP := Lib.hid (fun a1 W h h' => times_r x (invO y) a a1 W hx (invO_fit hy) h h')
  rw [mul_invO] at HP
  have RR : Hid (∀ W, Below w.heap.size w W → Rds W (rows (ofO x) a) ∧ Rds W (rows (ofO y) b)) := Lib.hid (fun W hb => ⟨h.below hb, h'.below hb⟩)
  clear h h' hx hy
  generalize ofO (binQ quoQ x y) = U at HP ⊢
  generalize ofO (invO y) = N1 at HX HP
  generalize ofO x = X at *
  generalize ofO y = Y at *
  go_enter Tryz.func131, Tryz.ntmps131
  go_wp2_with fail
  have kb := ba3 w (.cells (r3 X a) 29) (.cells (r3 Y b) 29) (.cells z3 29)
  obtain ⟨P_r, P_s, P_o⟩ := blocks3 w (.cells (r3 X a) 29) (.cells (r3 Y b) 29) (.cells z3 29)
  generalize ((w.alloc (.cells (r3 X a) 29)).alloc (.cells (r3 Y b) 29)).alloc (.cells z3 29) = W1 at kb P_r P_s P_o ⊢
  obtain ⟨rr, hrr⟩ : ∃ r, r = w.heap.size + 1 + 1 := ⟨_, rfl⟩
  rw [← hrr] at P_o ⊢
  have hrr3 : w.heap.size ≤ rr := by omega
  have nr_r : rr ≠ w.heap.size := by omega
  have nr_s : rr ≠ w.heap.size + 1 := by omega
  clear hrr
  have hlt0 := rblk_lt P_o
  have hle0 := kb.size
  have SB : Hid (∀ w', Keep3 W1 w' rr → (w'.cell? ⟨w.heap.size, 0, none⟩ = some (.bool X.p) ∧ w'.cell? ⟨w.heap.size, 1, none⟩ = some (.slice a.A X.l.length a.c) ∧ w'.cell? ⟨w.heap.size, 2, none⟩ = some (.slice a.D X.m.length a.d) ∧ w'.cell? ⟨w.heap.size + 1, 0, none⟩ = some (.bool Y.p) ∧ w'.cell? ⟨w.heap.size + 1, 1, none⟩ = some (.slice b.A Y.l.length b.c) ∧ w'.cell? ⟨w.heap.size + 1, 2, none⟩ = some (.slice b.D Y.m.length b.d) ∧ Keep3 W1 w' rr)) := Lib.hid (fun w' hK => ⟨rblk_cell (hK.block P_r nr_r) 0, rblk_cell (hK.block P_r nr_r) 1, rblk_cell (hK.block P_r nr_r) 2, rblk_cell (hK.block P_s nr_s) 0, rblk_cell (hK.block P_s nr_s) 1, rblk_cell (hK.block P_s nr_s) 2, hK⟩)
  have KW := Lib.hid kb
  have KST := Keep3.start P_o
  clear kb
  go_region_held3 (fun w' => w'.cell? ⟨w.heap.size, 0, none⟩ = some (.bool X.p) ∧ w'.cell? ⟨w.heap.size, 1, none⟩ = some (.slice a.A X.l.length a.c) ∧ w'.cell? ⟨w.heap.size, 2, none⟩ = some (.slice a.D X.m.length a.d) ∧ w'.cell? ⟨w.heap.size + 1, 0, none⟩ = some (.bool Y.p) ∧ w'.cell? ⟨w.heap.size + 1, 1, none⟩ = some (.slice b.A Y.l.length b.c) ∧ w'.cell? ⟨w.heap.size + 1, 2, none⟩ = some (.slice b.D Y.m.length b.d) ∧ Keep3 W1 w' rr)
    (first | (with_reducible exact SB.out _ KST.drew) | (with_reducible exact SB.out _ KST) | (go_split_ands; with_reducible refine SB.out _ ?_; with_reducible refine Keep3.put3 ?_ _ _ _; with_reducible assumption) | (with_reducible exact SB.out _ (KST.below (ba1 _ _))) | (with_reducible exact SB.out _ (KST.drew.below (ba1 _ _))) | (go_split_ands; with_reducible exact SB.out _ (Keep3.below (by assumption : Keep3 W1 _ rr) hb)) | (go_split_ands; with_reducible exact SB.out _ (Keep3.below (by assumption : Keep3 W1 _ rr) (ba1 _ _))))
    (first | (go_at_call 133; go_split_ands; ((with_reducible refine (HX.out _ (RR.out _ (Keep3.base (by assumption : Keep3 W1 _ rr) KW.out hrr3)).2).mono ?_); rintro e Wn1_0 ⟨a1, rfl, hc1, hc2, o1, hap1, hb⟩; skip)) | (go_at_call 140; go_split_ands; ((with_reducible refine (HP.out _ _ (RR.out _ (Keep3.base (by assumption : Keep3 W1 _ rr) KW.out hrr3)).1 (by first | with_reducible exact o1.rds | with_reducible exact (Owns.drew o1).rds | with_reducible exact (o1.below (ba1 _ _)).rds | with_reducible exact (Owns.drew (o1.below (ba1 _ _))).rds)).mono ?_); rintro e Wn1_1 ⟨a3, rfl, hc5, hc6, o3, hap3, hb⟩; have hz0 := Keep3.size (by assumption : Keep3 W1 _ rr); have KL := Keep3.below (by assumption : Keep3 W1 _ rr) hb; obtain ⟨u0, u1, u2, t0, t1, t2, t3, t4, t5⟩ := KL.cells)))
  all_goals
    have hfin := (‹_ ∧ _ ∧ _ ∧ _ ∧ _ ∧ _ ∧ Keep3 W1 _ rr›).2.2.2.2.2.2
    go_wp2
    exact bodyPost_ret (v := .agg (r3 U a3)) (by simp [results, Tryz.results131, go_sem, t0, t1, t2]) rfl ⟨a3, rfl, hc5, hc6, owns_end3 o3 (.inl (Nat.lt_of_lt_of_le hlt0 hz0)) (Nat.le_trans hle0 hz0) (Nat.le_refl _) _ _ _, hap3, hfin.base KW.out hrr3⟩
end Go.Proofs.YtppdholccpgcpaaGreat
