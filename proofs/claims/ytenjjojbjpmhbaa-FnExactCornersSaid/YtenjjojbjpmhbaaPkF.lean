/-
  Fractions of the program: the small methods ('exists', 'limited', 'divided', 'scaled', 'copied', 'negated', 'inverse', 'sign', 'order').
-/
import Derived.Test.YtenjjojbjpmhbaaPkD
import Derived.Test.YtenjjojbjpmhbaaPkB
import Derived.Deep.DrawnRows
import Derived.Deep.DeepCutAuto
namespace Go.Proofs.Ytenjjojbjpmhbaa
open Go.ChangeShapes Go.WideShapes Go.ChangeAt Go.RowKit
open Go.ChangeMaps (open_string shut_string)
set_option linter.unusedVariables false
set_option linter.unusedSimpArgs false
set_option maxRecDepth 4000

attribute [local go_sem ↓] Go.wp_at_zero Go.wp_at_succ

theorem own_same {B : Nat} {w : World} {A A' : Option Addr} {L : List Int} (h : L = [] ∨ A' = A) (o : OwnS B w A (vi L)) : OwnS B w A' (vi L) := by
  rcases h with h | h
  · exact .inl (by rw [h]; rfl)
  · rw [h]; exact o
theorem apart_same {L : List Int} {A A' : Option Addr} {k : Nat} {D : Option Addr} (h : L = [] ∨ A' = A) (o : Apart L.length A k D) : Apart L.length A' k D := by
  rcases h with h | h
  · intro a ha; rw [h] at ha; simp [rowOf] at ha
  · rw [h]; exact o

end Go.Proofs.Ytenjjojbjpmhbaa

namespace Go.Proofs.Ytenjjojbjpmhbaa
open Go.ChangeShapes Go.WideShapes Go.ChangeAt Go.RowKit
open Go.ChangeMaps (open_string shut_string)
set_option linter.unusedVariables false
set_option linter.unusedSimpArgs false
set_option maxRecDepth 4000

attribute [local go_sem ↓] Go.wp_at_zero Go.wp_at_succ

theorem zn_mul_pos (x : Int) (f : Nat) (hf : 0 < f) : zn (x * (f : Int)) = zn x := by
  unfold zn
  have hfi : (0 : Int) < (f : Int) := by omega
  by_cases h : x < 0
  · rw [decide_eq_true h, decide_eq_true (Int.mul_neg_of_neg_of_pos h hfi)]
  · have := Int.mul_nonneg (show 0 ≤ x by omega) (Int.le_of_lt hfi)
    rw [decide_eq_false h, decide_eq_false (by omega)]
theorem zm_mul (x : Int) (f : Nat) : zm (x * (f : Int)) = nd (x.natAbs * f) := by unfold zm; rw [Int.natAbs_mul, Int.natAbs_natCast]
end Go.Proofs.Ytenjjojbjpmhbaa

namespace Go.Proofs.Ytenjjojbjpmhbaa
open Go.ChangeShapes Go.WideShapes Go.ChangeAt Go.RowKit
open Go.ChangeMaps (open_string shut_string)
set_option linter.unusedVariables false
set_option linter.unusedSimpArgs false
set_option maxRecDepth 4000

attribute [local go_sem ↓] Go.wp_at_zero Go.wp_at_succ

set_option maxHeartbeats 1000000 in
theorem copied_any (pr : Bool) (a b : Nat) (A D : Option Addr) (n k c d : Nat) (w : World) (hn : ln a = n) (hk : ln b = k) (h6 : n ≤ 1048576) (h6' : k ≤ 1048576) (hA : RdS w A (vi (nd a))) (hD : RdS w D (vi (nd b))) :
    Calls Try.prog 41 #[.agg #[.bool pr, .slice A n c, .slice D k d]] w (MadeR w.heap.size pr (nd a) (nd b) w) := by
  have C1 := Lib.hid (fun W h => copy_zero a A n c W hn h6 h)
  have C2 := Lib.hid (fun W h => copy_zero b D k d W hk h6' h)
  have RR : Hid (∀ W, Below w.heap.size w W → RdS W A (vi (nd a)) ∧ RdS W D (vi (nd b))) := Lib.hid (fun W hb => ⟨hA.below hb, hD.below hb⟩)
  clear hn hk h6 h6' hA hD
  generalize nd a = LA at C1 RR ⊢
  generalize nd b = LD at C2 RR ⊢
  go_enter Try.func41, Try.ntmps41
  go_wp2_with fail
  have kb := ba2 w (.cells #[.bool pr, .slice A n c, .slice D k d] 49) (.cells #[.bool false, .slice none 0 0, .slice none 0 0] 49)
  obtain ⟨P_r, P_o⟩ := blocks2 w (.cells #[.bool pr, .slice A n c, .slice D k d] 49) (.cells #[.bool false, .slice none 0 0, .slice none 0 0] 49)
  generalize (w.alloc (.cells #[.bool pr, .slice A n c, .slice D k d] 49)).alloc (.cells #[.bool false, .slice none 0 0, .slice none 0 0] 49) = W1 at kb P_r P_o ⊢
  obtain ⟨rr, hrr⟩ : ∃ r, r = w.heap.size + 1 := ⟨_, rfl⟩
  rw [← hrr] at P_o ⊢
  have hrr3 : w.heap.size ≤ rr := by omega
  have nr_r : rr ≠ w.heap.size := by omega
  clear hrr
  have hlo1 := kb.size
  have hlt1 := rblk_lt P_o
  have SB : Hid (∀ w', Below W1.heap.size W1 w' → (w'.cell? ⟨w.heap.size, 0, none⟩ = some (.bool pr) ∧ w'.cell? ⟨w.heap.size, 1, none⟩ = some (.slice A n c) ∧ w'.cell? ⟨w.heap.size, 2, none⟩ = some (.slice D k d) ∧ Below W1.heap.size W1 w')) := Lib.hid (fun w' hB => ⟨rblk_cell (rblk_below P_r hB) 0, rblk_cell (rblk_below P_r hB) 1, rblk_cell (rblk_below P_r hB) 2, hB⟩)
  have KW := Lib.hid kb
  go_cut [3] (fun sv wx => CutP W1 47 (pr) (LA) sv wx)
  case first =>
    clear kb
    go_region_held3 (fun w' => w'.cell? ⟨w.heap.size, 0, none⟩ = some (.bool pr) ∧ w'.cell? ⟨w.heap.size, 1, none⟩ = some (.slice A n c) ∧ w'.cell? ⟨w.heap.size, 2, none⟩ = some (.slice D k d) ∧ Below W1.heap.size W1 w')
      (first | (exact SB.out _ (Below.refl _ _).drew) | (exact SB.out _ (ba1 _ _).drew) | (exact SB.out _ (ba1 _ _)) | (go_split_ands; exact SB.out _ (bt (by assumption : Below W1.heap.size W1 _) hb)) | (go_split_ands; exact SB.out _ (Below.alloc (by assumption : Below W1.heap.size W1 _) (Below.size (by assumption : Below W1.heap.size W1 _)) _)) | (go_split_ands; exact SB.out _ (below_put2 (by assumption : Below W1.heap.size W1 _) (by first | exact Nat.le_refl _ | assumption) _ _)))
      (first | (go_at_call 48; go_split_ands; ((with_reducible refine (C1.out _ (RR.out _ (bt KW.out (by assumption : Below W1.heap.size W1 _))).1).mono ?_); rintro e Wn0 ⟨Aa, ca, rfl, hca, oa, hb⟩; skip; have KB0 := (by assumption : Below W1.heap.size W1 _); have KB := bt KB0 hb; have hsC := KB.size; have hoa := oa.more KB0.size; (first | (have tt := (tt_a hb).1; have hgB := (tt_a hb).2) | (have tt := (tt_b hb).1; have hgB := (tt_b hb).2) | (have hgB := (tt_c tt hb).2; replace tt := (tt_c tt hb).1) | skip); (first | (have t0 := rblk_cell tt 0; have q0 := rblk_free tt 0; have t1 := rblk_cell tt 1; have q1 := rblk_free tt 1) | skip))))
    all_goals (go_wp2_with fail; go_meet; first | exact ⟨_, Aa, ca, rfl, hsC, hca, heap_alloc_new _ _, hoa.below (ba1 _ _), KB.alloc KB.size _⟩ | exact ⟨_, Aa, ca, rfl, (by first | exact Nat.le_refl _ | assumption), hca, rblk_set (rblk_set tt 0 _) 1 _, (own_put2 oa hgB _ _).more KB0.size, below_put2 KB (by first | exact Nat.le_refl _ | assumption) _ _⟩)
  case rest =>
    obtain ⟨g_m, Aa, ca, rfl, hlo_m, hca, P_m, oa, hb⟩ := hcut
    have nr_m : rr ≠ g_m := by have h1 := rblk_lt P_o; omega
    obtain ⟨W2, hWn⟩ : ∃ W', W' = wc := ⟨_, rfl⟩
    subst hWn
    replace P_r := rblk_below P_r hb
    replace P_o := rblk_below P_o hb
    replace kb := bt kb hb
    clear hb KW SB
    go_wp2_with fail
    have SB : Hid (∀ w', Keep3 W2 w' rr → (w'.cell? ⟨w.heap.size, 0, none⟩ = some (.bool pr) ∧ w'.cell? ⟨w.heap.size, 1, none⟩ = some (.slice A n c) ∧ w'.cell? ⟨w.heap.size, 2, none⟩ = some (.slice D k d) ∧ w'.cell? ⟨g_m, 0, none⟩ = some (.bool pr) ∧ w'.cell? ⟨g_m, 1, none⟩ = some (.slice Aa LA.length ca) ∧ Keep3 W2 w' rr)) := Lib.hid (fun w' hK => ⟨rblk_cell (hK.block P_r nr_r) 0, rblk_cell (hK.block P_r nr_r) 1, rblk_cell (hK.block P_r nr_r) 2, rblk_cell (hK.block P_m nr_m) 0, rblk_cell (hK.block P_m nr_m) 1, hK⟩)
    have KW := Lib.hid kb
    have KST := Keep3.start P_o
    clear kb
    go_region_held3 (fun w' => w'.cell? ⟨w.heap.size, 0, none⟩ = some (.bool pr) ∧ w'.cell? ⟨w.heap.size, 1, none⟩ = some (.slice A n c) ∧ w'.cell? ⟨w.heap.size, 2, none⟩ = some (.slice D k d) ∧ w'.cell? ⟨g_m, 0, none⟩ = some (.bool pr) ∧ w'.cell? ⟨g_m, 1, none⟩ = some (.slice Aa LA.length ca) ∧ Keep3 W2 w' rr)
      (first | (exact SB.out _ KST.drew) | (exact SB.out _ KST) | (exact SB.out _ (KST.below (ba1 _ _))) | (exact SB.out _ (KST.drew.below (ba1 _ _))) | (go_split_ands; exact SB.out _ (Keep3.below (by assumption : Keep3 W2 _ rr) hb)) | (go_split_ands; exact SB.out _ (Keep3.put3 (by assumption : Keep3 W2 _ rr) _ _ _)) | (go_split_ands; exact SB.out _ (Keep3.below (by assumption : Keep3 W2 _ rr) (ba1 _ _))))
      (first | (go_at_call 48; go_split_ands; ((with_reducible refine (C2.out _ (RR.out _ (Keep3.base (by assumption : Keep3 W2 _ rr) KW.out hrr3)).2).mono ?_); rintro e Wn1_0 ⟨Ab, cb, rfl, hcb, ob, hb⟩; have hltr := Keep3.lt (by assumption : Keep3 W2 _ rr); have KL := Keep3.below (by assumption : Keep3 W2 _ rr) hb; obtain ⟨u0, u1, u2, t0, t1, t2, t3, t4, t5⟩ := KL.cells; have hap := (oa.inR (vi_length LA)).apart (ob.inR (vi_length LD)) (.inl (Nat.le_refl _)); (first | replace oa := oa.below hb | replace oa := (OwnS.drew' oa).below hb | replace oa := (oa.below (ba1 _ _)).below hb | replace oa := (OwnS.drew' (oa.below (ba1 _ _))).below hb | replace oa := ((OwnS.drew' oa).below (ba1 _ _)).below hb))))
    all_goals
      have hfin := (‹_ ∧ _ ∧ _ ∧ _ ∧ _ ∧ Keep3 W2 _ rr›).2.2.2.2.2
      go_wp2
      exact bodyPost_ret (v := .agg #[.bool pr, .slice Aa LA.length ca, .slice Ab LD.length cb]) (by simp [results, Try.results41, go_sem, t0, t1, t2]) rfl ⟨Aa, ca, Ab, cb, rfl, hca, hcb, (own_put3 oa hlt1 _ _ _).more hlo1, (own_put3 ob hltr _ _ _).more (Nat.le_trans hrr3 (Nat.le_of_lt hltr)), hap, hfin.base KW.out hrr3⟩

/-- 'inverse' of a fraction. -/
def invQ (r : Rat) : Option Rat := if r.num = 0 then none else some r⁻¹
end Go.Proofs.Ytenjjojbjpmhbaa

namespace Go.Proofs.Ytenjjojbjpmhbaa
open Go.ChangeShapes Go.WideShapes Go.ChangeAt Go.RowKit
open Go.ChangeMaps (open_string shut_string)
set_option linter.unusedVariables false
set_option linter.unusedSimpArgs false
set_option maxRecDepth 4000

attribute [local go_sem ↓] Go.wp_at_zero Go.wp_at_succ

theorem ln_div (a g : Nat) : ln (a / g) ≤ ln a := ln_mono (Nat.div_le_self _ _)
theorem ln_gcd {a b : Nat} (hb : 0 < b) : ln (Nat.gcd a b) ≤ ln b := ln_mono (Nat.le_of_dvd hb (Nat.gcd_dvd_right a b))
theorem hp_mul (r s : Rat) (g h : Nat) (e1 : (r * s).num.natAbs = (r.num.natAbs / g) * (s.num.natAbs / h)) (e3 : zn (r * s).num = zn (r.num * s.num)) : ((!(zn r.num == zn s.num)) && decide (nd (r * s).num.natAbs ≠ [])) = zn (r * s).num := by
  by_cases h0 : (r * s).num = 0
  · rw [h0, show (0 : Int).natAbs = 0 from rfl, nd_zero, zn_zero]; simp
  · have hv : (r * s).num.natAbs ≠ 0 := by omega
    rw [decide_eq_true (nd_pos hv), Bool.and_true, e3]
    have hr0 : r.num.natAbs ≠ 0 := by rintro e; rw [e, Nat.zero_div, Nat.zero_mul] at e1; exact hv e1
    have hs0 : s.num.natAbs ≠ 0 := by rintro e; rw [e, Nat.zero_div, Nat.mul_zero] at e1; exact hv e1
    have := sgn_zn (!(zn r.num == zn s.num)) (r.num.natAbs * s.num.natAbs)
    rw [show sgn (!(zn r.num == zn s.num)) (r.num.natAbs * s.num.natAbs) = r.num * s.num from times_z r.num s.num, decide_eq_true (Nat.mul_ne_zero hr0 hs0), Bool.and_true] at this
    exact this.symm
end Go.Proofs.Ytenjjojbjpmhbaa

namespace Go.Proofs.Ytenjjojbjpmhbaa
open Go.ChangeShapes Go.WideShapes Go.ChangeAt Go.RowKit
open Go.ChangeMaps (open_string shut_string)
set_option linter.unusedVariables false
set_option linter.unusedSimpArgs false
set_option maxRecDepth 4000

attribute [local go_sem ↓] Go.wp_at_zero Go.wp_at_succ

theorem OwnS.putR {B lo hi b o : Nat} {w : World} {A : Option Addr} {l : List Int} (h : OwnS B w A (vi l)) (hr : InR l.length A lo hi) (hb : b < lo ∨ hi ≤ b) (v : Value) : OwnS B (w.setCell ⟨b, o, none⟩ v) A (vi l) := by
  rcases h with h | ⟨g, ha, hB, hs, hc, hf⟩
  · exact .inl h
  · by_cases h0 : l.length = 0
    · exact .inl (by rw [List.eq_nil_of_length_eq_zero h0]; rfl)
    · have hg := hr g (by rw [rowOf, if_neg h0, ha]; rfl)
      refine .inr ⟨g, ha, hB, by simpa [World.setCell] using hs, fun j hj => ?_, fun j hj => ?_⟩
      · rw [World.cell?_setCell_other w ⟨b, o, none⟩ ⟨g, j, none⟩ v (by intro q; injection q with q1 _; omega)]
        exact hc j hj
      · rw [World.frozen?_setCell]; exact hf j hj
theorem hp_add (p : Bool) (N : Int) (e : Nat) (h : sgn p N.natAbs = N) (he : 0 < e) (hd : e ∣ N.natAbs) : (p && decide (nd (N.natAbs / e) ≠ [])) = zn N := by
  have h1 := sgn_zn p N.natAbs
  rw [h] at h1
  rw [h1]
  congr 1
  by_cases h0 : N.natAbs = 0
  · rw [h0, Nat.zero_div, nd_zero]; simp
  · have := Nat.div_pos (Nat.le_of_dvd (by omega) hd) he
    rw [decide_eq_true h0, decide_eq_true (nd_pos (by omega))]
theorem plus_n (x y : Int) : plusN (zn x) x.natAbs (zn y) y.natAbs = (x + y).natAbs ∧ sgn (plusB (zn x) x.natAbs (zn y) y.natAbs) (x + y).natAbs = x + y := by
  have h : sgn (plusB (zn x) x.natAbs (zn y) y.natAbs) (plusN (zn x) x.natAbs (zn y) y.natAbs) = x + y := plus_z x y
  have h2 : plusN (zn x) x.natAbs (zn y) y.natAbs = (x + y).natAbs := by rw [← h, sgn_abs]
  rw [h2] at h
  exact ⟨h2, h⟩
end Go.Proofs.Ytenjjojbjpmhbaa

namespace Go.Proofs.Ytenjjojbjpmhbaa
open Go.ChangeShapes Go.WideShapes Go.ChangeAt Go.RowKit
open Go.ChangeMaps (open_string shut_string)
set_option linter.unusedVariables false
set_option linter.unusedSimpArgs false
set_option maxRecDepth 4000

attribute [local go_sem ↓] Go.wp_at_zero Go.wp_at_succ

/-- 'times' where the second may be none. -/
def mulO (r : Rat) (o : Option Rat) : Option Rat := match o with
  | none => none
  | some s => mulQ r s
theorem invQ_fit {s : Rat} (h : Fit s) : ∀ t, invQ s = some t → Fit t := by
  intro t ht
  unfold invQ at ht
  split at ht
  · cases ht
  · injection ht with ht; rw [← ht]; exact inv_fit h (by assumption)
theorem mulO_inv (r s : Rat) : mulO r (invQ s) = quoQ r s := by
  unfold invQ quoQ
  split
  · rfl
  · show cutQ (r * s⁻¹) = cutQ (r / s)
    rw [Rat.div_def]
end Go.Proofs.Ytenjjojbjpmhbaa

namespace Go.Proofs.Ytenjjojbjpmhbaa
open Go.ChangeShapes Go.WideShapes Go.ChangeAt Go.RowKit
open Go.ChangeMaps (open_string shut_string)
set_option linter.unusedVariables false
set_option linter.unusedSimpArgs false
set_option maxRecDepth 4000

attribute [local go_sem ↓] Go.wp_at_zero Go.wp_at_succ

end Go.Proofs.Ytenjjojbjpmhbaa

namespace Go.Proofs.Ytenjjojbjpmhbaa
open Go.ChangeShapes Go.WideShapes Go.ChangeAt Go.RowKit
open Go.ChangeMaps (open_string shut_string)
set_option linter.unusedVariables false
set_option linter.unusedSimpArgs false
set_option maxRecDepth 4000

attribute [local go_sem ↓] Go.wp_at_zero Go.wp_at_succ

end Go.Proofs.Ytenjjojbjpmhbaa

