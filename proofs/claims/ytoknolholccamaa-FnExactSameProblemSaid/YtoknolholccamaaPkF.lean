/-
  Fractions of the program: the small methods ('exists', 'limited', 'divided', 'scaled', 'copied', 'negated', 'inverse', 'sign', 'order').
-/
import Derived.Test.YtoknolholccamaaPkD
import Derived.Test.YtoknolholccamaaPkB
import Derived.Deep.DrawnRows
import Derived.Deep.DeepCutAuto
namespace Go.Proofs.Ytoknolholccamaa
open Go.ChangeShapes Go.WideShapes Go.ChangeAt Go.RowKit
open Go.ChangeMaps (open_string shut_string)
set_option linter.unusedVariables false
set_option linter.unusedSimpArgs false
set_option maxRecDepth 4000

attribute [local go_sem ↓] Go.wp_at_zero Go.wp_at_succ

theorem own_same {B : Nat} {w : World} {A A' : Option Addr} {L : List Int} (h : L = [] ∨ A' = A) (o : OwnS B w A (vi L)) : OwnS B w A' (vi L) := by
  rcases h with h | h
  · exact .inl (by rw [h]; rfl)
  · rw [h]; exact o
theorem apart_same {L : List Int} {A A' : Option Addr} {k : Nat} {D : Option Addr} (h : L = [] ∨ A' = A) (o : Apart L.length A k D) : Apart L.length A' k D := by
  rcases h with h | h
  · intro a ha; rw [h] at ha; simp [rowOf] at ha
  · rw [h]; exact o

end Go.Proofs.Ytoknolholccamaa

namespace Go.Proofs.Ytoknolholccamaa
open Go.ChangeShapes Go.WideShapes Go.ChangeAt Go.RowKit
open Go.ChangeMaps (open_string shut_string)
set_option linter.unusedVariables false
set_option linter.unusedSimpArgs false
set_option maxRecDepth 4000

attribute [local go_sem ↓] Go.wp_at_zero Go.wp_at_succ

theorem zn_mul_pos (x : Int) (f : Nat) (hf : 0 < f) : zn (x * (f : Int)) = zn x := by
  unfold zn
  have hfi : (0 : Int) < (f : Int) := by omega
  by_cases h : x < 0
  · rw [decide_eq_true h, decide_eq_true (Int.mul_neg_of_neg_of_pos h hfi)]
  · have := Int.mul_nonneg (show 0 ≤ x by omega) (Int.le_of_lt hfi)
    rw [decide_eq_false h, decide_eq_false (by omega)]
theorem zm_mul (x : Int) (f : Nat) : zm (x * (f : Int)) = nd (x.natAbs * f) := by unfold zm; rw [Int.natAbs_mul, Int.natAbs_natCast]
end Go.Proofs.Ytoknolholccamaa

namespace Go.Proofs.Ytoknolholccamaa
open Go.ChangeShapes Go.WideShapes Go.ChangeAt Go.RowKit
open Go.ChangeMaps (open_string shut_string)
set_option linter.unusedVariables false
set_option linter.unusedSimpArgs false
set_option maxRecDepth 4000

attribute [local go_sem ↓] Go.wp_at_zero Go.wp_at_succ

/-- 'inverse' of a fraction. -/
def invQ (r : Rat) : Option Rat := if r.num = 0 then none else some r⁻¹
end Go.Proofs.Ytoknolholccamaa

namespace Go.Proofs.Ytoknolholccamaa
open Go.ChangeShapes Go.WideShapes Go.ChangeAt Go.RowKit
open Go.ChangeMaps (open_string shut_string)
set_option linter.unusedVariables false
set_option linter.unusedSimpArgs false
set_option maxRecDepth 4000

attribute [local go_sem ↓] Go.wp_at_zero Go.wp_at_succ

theorem ln_div (a g : Nat) : ln (a / g) ≤ ln a := ln_mono (Nat.div_le_self _ _)
theorem ln_gcd {a b : Nat} (hb : 0 < b) : ln (Nat.gcd a b) ≤ ln b := ln_mono (Nat.le_of_dvd hb (Nat.gcd_dvd_right a b))
theorem hp_mul (r s : Rat) (g h : Nat) (e1 : (r * s).num.natAbs = (r.num.natAbs / g) * (s.num.natAbs / h)) (e3 : zn (r * s).num = zn (r.num * s.num)) : ((!(zn r.num == zn s.num)) && decide (nd (r * s).num.natAbs ≠ [])) = zn (r * s).num := by
  by_cases h0 : (r * s).num = 0
  · rw [h0, show (0 : Int).natAbs = 0 from rfl, nd_zero, zn_zero]; simp
  · have hv : (r * s).num.natAbs ≠ 0 := by omega
    rw [decide_eq_true (nd_pos hv), Bool.and_true, e3]
    have hr0 : r.num.natAbs ≠ 0 := by rintro e; rw [e, Nat.zero_div, Nat.zero_mul] at e1; exact hv e1
    have hs0 : s.num.natAbs ≠ 0 := by rintro e; rw [e, Nat.zero_div, Nat.mul_zero] at e1; exact hv e1
    have := sgn_zn (!(zn r.num == zn s.num)) (r.num.natAbs * s.num.natAbs)
    rw [show sgn (!(zn r.num == zn s.num)) (r.num.natAbs * s.num.natAbs) = r.num * s.num from times_z r.num s.num, decide_eq_true (Nat.mul_ne_zero hr0 hs0), Bool.and_true] at this
    exact this.symm
end Go.Proofs.Ytoknolholccamaa

namespace Go.Proofs.Ytoknolholccamaa
open Go.ChangeShapes Go.WideShapes Go.ChangeAt Go.RowKit
open Go.ChangeMaps (open_string shut_string)
set_option linter.unusedVariables false
set_option linter.unusedSimpArgs false
set_option maxRecDepth 4000

attribute [local go_sem ↓] Go.wp_at_zero Go.wp_at_succ

theorem OwnS.putR {B lo hi b o : Nat} {w : World} {A : Option Addr} {l : List Int} (h : OwnS B w A (vi l)) (hr : InR l.length A lo hi) (hb : b < lo ∨ hi ≤ b) (v : Value) : OwnS B (w.setCell ⟨b, o, none⟩ v) A (vi l) := by
  rcases h with h | ⟨g, ha, hB, hs, hc, hf⟩
  · exact .inl h
  · by_cases h0 : l.length = 0
    · exact .inl (by rw [List.eq_nil_of_length_eq_zero h0]; rfl)
    · have hg := hr g (by rw [rowOf, if_neg h0, ha]; rfl)
      refine .inr ⟨g, ha, hB, by simpa [World.setCell] using hs, fun j hj => ?_, fun j hj => ?_⟩
      · rw [World.cell?_setCell_other w ⟨b, o, none⟩ ⟨g, j, none⟩ v (by intro q; injection q with q1 _; omega)]
        exact hc j hj
      · rw [World.frozen?_setCell]; exact hf j hj
theorem hp_add (p : Bool) (N : Int) (e : Nat) (h : sgn p N.natAbs = N) (he : 0 < e) (hd : e ∣ N.natAbs) : (p && decide (nd (N.natAbs / e) ≠ [])) = zn N := by
  have h1 := sgn_zn p N.natAbs
  rw [h] at h1
  rw [h1]
  congr 1
  by_cases h0 : N.natAbs = 0
  · rw [h0, Nat.zero_div, nd_zero]; simp
  · have := Nat.div_pos (Nat.le_of_dvd (by omega) hd) he
    rw [decide_eq_true h0, decide_eq_true (nd_pos (by omega))]
theorem plus_n (x y : Int) : plusN (zn x) x.natAbs (zn y) y.natAbs = (x + y).natAbs ∧ sgn (plusB (zn x) x.natAbs (zn y) y.natAbs) (x + y).natAbs = x + y := by
  have h : sgn (plusB (zn x) x.natAbs (zn y) y.natAbs) (plusN (zn x) x.natAbs (zn y) y.natAbs) = x + y := plus_z x y
  have h2 : plusN (zn x) x.natAbs (zn y) y.natAbs = (x + y).natAbs := by rw [← h, sgn_abs]
  rw [h2] at h
  exact ⟨h2, h⟩
end Go.Proofs.Ytoknolholccamaa

namespace Go.Proofs.Ytoknolholccamaa
open Go.ChangeShapes Go.WideShapes Go.ChangeAt Go.RowKit
open Go.ChangeMaps (open_string shut_string)
set_option linter.unusedVariables false
set_option linter.unusedSimpArgs false
set_option maxRecDepth 4000

attribute [local go_sem ↓] Go.wp_at_zero Go.wp_at_succ

/-- 'times' where the second may be none. -/
def mulO (r : Rat) (o : Option Rat) : Option Rat := match o with
  | none => none
  | some s => mulQ r s
theorem invQ_fit {s : Rat} (h : Fit s) : ∀ t, invQ s = some t → Fit t := by
  intro t ht
  unfold invQ at ht
  split at ht
  · cases ht
  · injection ht with ht; rw [← ht]; exact inv_fit h (by assumption)
theorem mulO_inv (r s : Rat) : mulO r (invQ s) = quoQ r s := by
  unfold invQ quoQ
  split
  · rfl
  · show cutQ (r * s⁻¹) = cutQ (r / s)
    rw [Rat.div_def]
end Go.Proofs.Ytoknolholccamaa

namespace Go.Proofs.Ytoknolholccamaa
open Go.ChangeShapes Go.WideShapes Go.ChangeAt Go.RowKit
open Go.ChangeMaps (open_string shut_string)
set_option linter.unusedVariables false
set_option linter.unusedSimpArgs false
set_option maxRecDepth 4000

attribute [local go_sem ↓] Go.wp_at_zero Go.wp_at_succ

end Go.Proofs.Ytoknolholccamaa

namespace Go.Proofs.Ytoknolholccamaa
open Go.ChangeShapes Go.WideShapes Go.ChangeAt Go.RowKit
open Go.ChangeMaps (open_string shut_string)
set_option linter.unusedVariables false
set_option linter.unusedSimpArgs false
set_option maxRecDepth 4000

attribute [local go_sem ↓] Go.wp_at_zero Go.wp_at_succ

end Go.Proofs.Ytoknolholccamaa

