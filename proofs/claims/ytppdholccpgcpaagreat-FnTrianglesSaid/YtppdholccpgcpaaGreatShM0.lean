/-
  Points with small coordinates and their areas: plain mathematics over Lean's own rationals.
-/
import Derived.Test.YtppdholccpgcpaaGreatLg
import Derived.Test.YtppdholccpgcpaaGreatTriC
namespace Go.Proofs.YtppdholccpgcpaaGreat
open Go.ChangeShapes Go.WideShapes Go.ChangeAt Go.RowKit
set_option linter.unusedVariables false
set_option linter.unusedSimpArgs false
set_option maxRecDepth 4000
def AtP (k : Nat) (p : PV) (x y : Rat) : Prop := valx p.x = some x ∧ valx p.y = some y ∧ Lg k x ∧ Lg k y
theorem AtP.more {k m : Nat} {p : PV} {x y : Rat} (h : AtP k p x y) (hk : k ≤ m) : AtP m p x y := ⟨h.1, h.2.1, h.2.2.1.more hk, h.2.2.2.more hk⟩
theorem at_mk {k : Nat} {x y : Rat} (hx : Lg k x) (hy : Lg k y) (hk : k ≤ 216) (a b : Ad) : AtP k ⟨ofO (some x), ofO (some y), a, b⟩ x y :=
  ⟨valx_ofO (fitO_some (hx.fit hk)), valx_ofO (fitO_some (hy.fit hk)), hx, hy⟩
theorem valx_data {x : R3} {r : Rat} (h : valx x = some r) : x = ofO (some r) := by
  cases hk : okx x with
  | false => rw [valx_no hk] at h; cases h
  | true =>
    obtain ⟨s, e1, e2, _⟩ := valx_yes hk
    rw [e1] at h; injection h with h; rw [← h]; exact e2
theorem addS {k m : Nat} {x y : Rat} (hx : Lg k x) (hy : Lg m y) (h : k + m + 1 ≤ 216) : binQ addQ (some x) (some y) = some (x + y) := (hx.add hy).cut h
theorem subS {k m : Nat} {x y : Rat} (hx : Lg k x) (hy : Lg m y) (h : k + m + 1 ≤ 216) : binQ subQ (some x) (some y) = some (x - y) := (hx.sub hy).cut h
theorem mulS {k m : Nat} {x y : Rat} (hx : Lg k x) (hy : Lg m y) (h : k + m ≤ 216) : binQ mulQ (some x) (some y) = some (x * y) := (hx.mul hy).cut h
theorem both_some (x y : Rat) : bothX (some x) (some y) = some x ∧ bothY (some x) (some y) = some y := ⟨rfl, rfl⟩
def det (a b c d e f : Rat) : Rat := (c - a) * (f - b) - (d - b) * (e - a)
theorem det_lg {k : Nat} {a b c d e f : Rat} (ha : Lg k a) (hb : Lg k b) (hc : Lg k c) (hd : Lg k d) (he : Lg k e) (hf : Lg k f) : Lg (8 * k + 5) (det a b c d e f) :=
  (((hc.sub ha).mul (hf.sub hb)).sub ((hd.sub hb).mul (he.sub ha))).more (by omega)
theorem aV_at {k : Nat} {p q r : PV} {a b c d e f : Rat} (hp : AtP k p a b) (hq : AtP k q c d) (hr : AtP k r e f) (hk : 8 * k + 5 ≤ 216) : aV p q r = some (det a b c d e f) := by
  obtain ⟨p1, p2, p3, p4⟩ := hp
  obtain ⟨q1, q2, q3, q4⟩ := hq
  obtain ⟨r1, r2, r3, r4⟩ := hr
  unfold aV areaO
  rw [p1, p2, q1, q2, r1, r2, subS q3 p3 (by omega), subS q4 p4 (by omega), subS r3 p3 (by omega), subS r4 p4 (by omega), (both_some _ _).1, (both_some _ _).2, (both_some _ _).1, (both_some _ _).2,
    mulS (q3.sub p3) (r4.sub p4) (by omega), mulS (q4.sub p4) (r3.sub p3) (by omega), subS ((q3.sub p3).mul (r4.sub p4)) ((q4.sub p4).mul (r3.sub p3)) (by omega)]
  rfl
theorem num_pos {r : Rat} : 0 < r.num ↔ 0 < r := by
  rw [Rat.lt_iff]; simp
theorem sgn_yes {r : Rat} (h : 0 < r) : sgnO (some r) = 1 := by
  have h1 := num_pos.2 h
  show cmpZ r.num 0 = 1
  unfold cmpZ
  rw [if_neg (by omega), if_pos h1]
theorem sgn_no {r : Rat} (h : r ≤ 0) : ¬ 0 < sgnO (some r) := by
  have h1 : ¬ 0 < r.num := fun k => absurd (num_pos.1 k) (Rat.not_lt.2 h)
  show ¬ 0 < cmpZ r.num 0
  unfold cmpZ
  rw [if_neg h1]
  split <;> omega
theorem sgn_zero : sgnO (some (0 : Rat)) = 0 := by decide
theorem proper_at {k : Nat} {p q r : PV} {a b c d e f : Rat} (hp : AtP k p a b) (hq : AtP k q c d) (hr : AtP k r e f) (hk : 8 * k + 5 ≤ 216) : properB [p, q, r] = decide (0 < det a b c d e f) := by
  show decide (0 < sgnO (aV p q r)) = _
  rw [aV_at hp hq hr hk]
  by_cases h : 0 < det a b c d e f
  · rw [sgn_yes h, decide_eq_true h]; rfl
  · rw [decide_eq_false h, decide_eq_false (sgn_no (Rat.not_lt.1 h))]
end Go.Proofs.YtppdholccpgcpaaGreat
