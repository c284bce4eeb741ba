/-
  Fractions of the model: 'l04One', 'RatOk'.
-/
import Derived.Test.YtoknolholccamaaPkD
import Derived.Test.YtoknolholccamaaPkB
import Derived.Deep.RegionHeld3
import Derived.Deep.DrawnRows
import Derived.Deep.DeepCutAuto
namespace Go.Proofs.Ytoknolholccamaa
open Go.ChangeShapes Go.WideShapes Go.ChangeAt Go.RowKit
open Go.ChangeMaps (open_string shut_string)
set_option linter.unusedVariables false
set_option linter.unusedSimpArgs false
set_option maxRecDepth 4000

end Go.Proofs.Ytoknolholccamaa

namespace Go.Proofs.Ytoknolholccamaa
open Go.ChangeShapes Go.WideShapes Go.ChangeAt Go.RowKit
open Go.ChangeMaps (open_string shut_string)
set_option linter.unusedVariables false
set_option linter.unusedSimpArgs false
set_option maxRecDepth 4000

theorem RdS.take {w : World} {A : Option Addr} {l : List Value} (h : RdS w A l) (k : Nat) : RdS w A (l.take k) := by
  rcases h with h | ⟨b, off, ha, hb, hc⟩
  · exact .inl (by rw [h, List.take_nil])
  · refine .inr ⟨b, off, ha, hb, fun j hj => ?_⟩
    rw [List.length_take] at hj
    rw [hc j (by omega), List.getElem?_take, if_pos (by omega)]
theorem row_val_ex (T : Nat) {n : Nat} {w : World} {A : Option Addr} (h : RdS w A (vi (row n T))) (hT : ln T ≤ n) : RdS w A (vi (nd T)) := by
  have h2 := RdS.take h (ln T)
  rw [← vi_take, row_take _ hT] at h2
  exact h2

theorem nd_one : nd 1 = [1] := by unfold nd; rw [ln_pos (by decide), show 1 / 1000000000 = 0 by decide, ln_zero]; decide
/-- The fraction of a sign, a magnitude and a denominator in lowest terms, or none. -/
def lowQ (s : Bool) (a b : Nat) : Option Rat := if b = 0 then none else cutQ (mkRat (sgn s a) b)
theorem lowQ_parts (s : Bool) (a b : Nat) (hb0 : 0 < b) : (mkRat (sgn s a) b).num.natAbs = a / Nat.gcd a b ∧ (mkRat (sgn s a) b).den = b / Nat.gcd a b ∧ zn (mkRat (sgn s a) b).num = (s && decide (nd (a / Nat.gcd a b) ≠ [])) := by
  obtain ⟨h1, h2, h3⟩ := low_parts (sgn s a) b hb0
  rw [sgn_abs] at h1 h2
  refine ⟨h1, h2, ?_⟩
  rw [h3, sgn_zn]
  congr 1
  have hg : 0 < Nat.gcd a b := Nat.gcd_pos_of_pos_right _ hb0
  have hd : Nat.gcd a b ∣ a := Nat.gcd_dvd_left a b
  by_cases h : a = 0
  · subst h
    rw [Nat.zero_div, nd_zero]
    simp
  · have : nd (a / Nat.gcd a b) ≠ [] := fun e => by
      have h0 := nd_nil_iff.1 e
      have := Nat.div_pos (Nat.le_of_dvd (by omega) hd) hg
      omega
    rw [decide_eq_true h, decide_eq_true this]
theorem lowQ_yes (s : Bool) (a b : Nat) (hb0 : 0 < b) (h24 : ln (a / Nat.gcd a b) ≤ 24 ∧ ln (b / Nat.gcd a b) ≤ 24) : qn (lowQ s a b) = (s && decide (nd (a / Nat.gcd a b) ≠ [])) ∧ ql (lowQ s a b) = nd (a / Nat.gcd a b) ∧ qd (lowQ s a b) = nd (b / Nat.gcd a b) := by
  obtain ⟨h1, h2, h3⟩ := lowQ_parts s a b hb0
  have hf : Fit (mkRat (sgn s a) b) := by unfold Fit; rw [h1, h2]; exact h24
  have e : lowQ s a b = some (mkRat (sgn s a) b) := by unfold lowQ; rw [if_neg (by omega), cutQ_in hf]
  rw [e]
  refine ⟨h3, ?_, ?_⟩
  · show zm _ = _
    unfold zm; rw [h1]
  · show nd _ = _
    rw [h2]
theorem lowQ_no (s : Bool) (a b : Nat) (h : b = 0 ∨ ¬ (ln (a / Nat.gcd a b) ≤ 24 ∧ ln (b / Nat.gcd a b) ≤ 24)) : lowQ s a b = none := by
  unfold lowQ
  by_cases hb : b = 0
  · rw [if_pos hb]
  · rw [if_neg hb]
    obtain ⟨h1, h2, _⟩ := lowQ_parts s a b (by omega)
    refine cutQ_out ?_
    unfold Fit
    rw [h1, h2]
    rcases h with h | h
    · exact absurd h hb
    · exact h
end Go.Proofs.Ytoknolholccamaa

namespace Go.Proofs.Ytoknolholccamaa
open Go.ChangeShapes Go.WideShapes Go.ChangeAt Go.RowKit
open Go.ChangeMaps (open_string shut_string)
set_option linter.unusedVariables false
set_option linter.unusedSimpArgs false
set_option maxRecDepth 4000

/-- 'l03Make' of a sign and a product. -/
theorem make_z (p : Bool) (v : Nat) (z : Int) (hz : sgn p v = z) (h60 : ln v ≤ 60) : (p && decide (cap60 v ≠ [])) = zn z ∧ cap60 v = zm z := by
  rw [cap60_yes' h60]
  subst hz
  refine ⟨?_, ?_⟩
  · rw [sgn_zn]
    congr 1
    by_cases h : v = 0
    · rw [h, nd_zero]; simp
    · rw [decide_eq_true h, decide_eq_true (nd_pos h)]
  · unfold zm; rw [sgn_abs]

/-- The order of two fractions; 0 where one is none. -/
def cmpO (x y : Option Rat) : Int := match x, y with
  | some r, some s => cmpQ r s
  | _, _ => 0
end Go.Proofs.Ytoknolholccamaa

namespace Go.Proofs.Ytoknolholccamaa
open Go.ChangeShapes Go.WideShapes Go.ChangeAt Go.RowKit
open Go.ChangeMaps (open_string shut_string)
set_option linter.unusedVariables false
set_option linter.unusedSimpArgs false
set_option maxRecDepth 4000

attribute [local go_sem ↓] Go.wp_at_zero Go.wp_at_succ

theorem low_mul (r s : Rat) : lowQ (!(zn r.num == zn s.num)) (r.num.natAbs * s.num.natAbs) (r.den * s.den) = mulQ r s := by
  unfold lowQ mulQ
  rw [if_neg (Nat.mul_ne_zero r.den_nz s.den_nz), Rat.mul_def', show sgn (!(zn r.num == zn s.num)) (r.num.natAbs * s.num.natAbs) = r.num * s.num from times_z r.num s.num]
end Go.Proofs.Ytoknolholccamaa

namespace Go.Proofs.Ytoknolholccamaa
open Go.ChangeShapes Go.WideShapes Go.ChangeAt Go.RowKit
open Go.ChangeMaps (open_string shut_string)
set_option linter.unusedVariables false
set_option linter.unusedSimpArgs false
set_option maxRecDepth 4000

attribute [local go_sem ↓] Go.wp_at_zero Go.wp_at_succ

theorem rd_one {w : World} {g : Nat} {T : TypeId} {x : Int} (P : w.heap[g]? = some (.cells #[.int .i64 x] T (0, 0))) : RdS w (some ⟨g, 0, none⟩) (vi [x]) :=
  .inr ⟨g, 0, rfl, rblk_lt P, fun j hj => by
    have hj' : j = 0 := by simp [vi] at hj; exact hj
    subst hj'
    rw [Nat.zero_add, rblk_cell P 0]
    rfl⟩
theorem low_add (r s : Rat) : lowQ (zn (r.num * s.den + s.num * r.den)) (r.num * s.den + s.num * r.den).natAbs (r.den * s.den) = addQ r s := by
  unfold lowQ addQ
  rw [if_neg (Nat.mul_ne_zero r.den_nz s.den_nz), sgn_z, Rat.add_def']
theorem low_add_one (r s : Rat) (h : r.den = 1) (h' : s.den = 1) : lowQ (zn (r.num + s.num)) (r.num + s.num).natAbs 1 = addQ r s := by
  unfold lowQ addQ
  rw [if_neg (by decide), sgn_z, add_one h h']

end Go.Proofs.Ytoknolholccamaa

namespace Go.Proofs.Ytoknolholccamaa
open Go.ChangeShapes Go.WideShapes Go.ChangeAt Go.RowKit
open Go.ChangeMaps (open_string shut_string)
set_option linter.unusedVariables false
set_option linter.unusedSimpArgs false
set_option maxRecDepth 4000

attribute [local go_sem ↓] Go.wp_at_zero Go.wp_at_succ

end Go.Proofs.Ytoknolholccamaa

