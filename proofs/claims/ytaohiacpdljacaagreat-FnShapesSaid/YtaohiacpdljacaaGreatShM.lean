/-
  What the law of shapes asks of small triangles: plain mathematics over Lean's own rationals.
-/
import Derived.Test.YtaohiacpdljacaaGreatShM0
import Derived.Test.YtaohiacpdljacaaGreatTriV
import Derived.Test.YtaohiacpdljacaaGreatShI
namespace Go.Proofs.YtaohiacpdljacaaGreat
open Go.ChangeShapes Go.WideShapes Go.ChangeAt Go.RowKit
set_option linter.unusedVariables false
set_option linter.unusedSimpArgs false
set_option maxRecDepth 4000
theorem rB_at {k : Nat} {p q r : PV} {a b c d e f : Rat} (hp : AtP k p a b) (hq : AtP k q c d) (hr : AtP k r e f) (hk : 8 * k + 5 ≤ 216) : rB p q r = decide (0 < det a b c d e f) := proper_at hp hq hr hk
/-- The square of a side. -/
def sqS (a b c d : Rat) : Rat := (c - a) * (c - a) + (d - b) * (d - b)
theorem sqO_at {k : Nat} {p q : PV} {a b c d : Rat} (hp : AtP k p a b) (hq : AtP k q c d) (hk : 8 * k + 5 ≤ 216) : sqO p q = some (sqS a b c d) ∧ Lg (8 * k + 5) (sqS a b c d) := by
  obtain ⟨p1, p2, p3, p4⟩ := hp
  obtain ⟨q1, q2, q3, q4⟩ := hq
  refine ⟨?_, (((q3.sub p3).mul (q3.sub p3)).add ((q4.sub p4).mul (q4.sub p4))).more (by omega)⟩
  unfold sqO dX dY
  rw [p1, p2, q1, q2, subS q3 p3 (by omega), subS q4 p4 (by omega), (both_some _ _).1, (both_some _ _).2,
    mulS (q3.sub p3) (q3.sub p3) (by omega), mulS (q4.sub p4) (q4.sub p4) (by omega), addS ((q3.sub p3).mul (q3.sub p3)) ((q4.sub p4).mul (q4.sub p4)) (by omega)]
  rfl
theorem maxS (x y : Rat) : ∃ z, binQ maxQ (some x) (some y) = some z ∧ x ≤ z ∧ y ≤ z ∧ (z = x ∨ z = y) := by
  show ∃ z, maxQ x y = some z ∧ _
  unfold maxQ cmpQ
  by_cases h : x < y
  · rw [if_pos h]; exact ⟨y, rfl, Rat.le_of_lt h, Rat.le_refl, .inr rfl⟩
  · rw [if_neg h]
    by_cases h' : y < x
    · rw [if_pos h']; exact ⟨x, rfl, Rat.le_refl, Rat.le_of_lt h', .inl rfl⟩
    · rw [if_neg h']; exact ⟨y, rfl, Rat.not_lt.1 h', Rat.le_refl, .inr rfl⟩
theorem lg_zero : Lg 1 0 := ⟨by decide, by decide⟩
theorem tri_of {p q r : PV} (h : properB [p, q, r] = true) : tri1 [p, q, r] = p ∧ tri2 [p, q, r] = q ∧ tri3 [p, q, r] = r := tri_yes h
/-- The shape of a triangle. -/
theorem shape_at {k : Nat} {p q r : PV} {a b c d e f : Rat} (hp : AtP k p a b) (hq : AtP k q c d) (hr : AtP k r e f) (hk : 16 * k + 10 ≤ 216) (hD : 0 < det a b c d e f) :
    ∃ s, shapeO [p, q, r] = some s ∧ 0 < s ∧ s < 1 ∧ Fit s := by
  have hpr : properB [p, q, r] = true := by rw [proper_at hp hq hr (by omega), decide_eq_true hD]
  obtain ⟨t1, t2, t3⟩ := tri_of hpr
  obtain ⟨s1, l1⟩ := sqO_at hp hq (by omega)
  obtain ⟨s2, l2⟩ := sqO_at hq hr (by omega)
  obtain ⟨s3, l3⟩ := sqO_at hr hp (by omega)
  unfold shapeO
  rw [aT_yes hpr, aV_at hp hq hr (by omega), t1, t2, t3]
  unfold long3 long2 long1
  rw [s1, s2, s3]
  obtain ⟨z1, e1, a1, b1, c1⟩ := maxS 0 (sqS a b c d)
  rw [e1]
  obtain ⟨z2, e2, a2, b2, c2⟩ := maxS z1 (sqS c d e f)
  rw [e2]
  obtain ⟨z3, e3, a3, b3, c3⟩ := maxS z2 (sqS e f a b)
  rw [e3]
  have y1 : Lg (8 * k + 5) z1 := by rcases c1 with rfl | rfl; exact lg_zero.more (by omega); exact l1
  have y2 : Lg (8 * k + 5) z2 := by rcases c2 with rfl | rfl; exact y1; exact l2
  have y3 : Lg (8 * k + 5) z3 := by rcases c3 with rfl | rfl; exact y2; exact l3
  have hlt : det a b c d e f < z3 := by
    have h1 : (c - a) * (c - a) + (d - b) * (d - b) ≤ z3 := Rat.le_trans b1 (Rat.le_trans a2 a3)
    have h2 : (e - c) * (e - c) + (f - d) * (f - d) ≤ z3 := Rat.le_trans b2 a3
    have h3 : (a - e) * (a - e) + (b - f) * (b - f) ≤ z3 := b3
    unfold det at hD ⊢
    exact shape_lt (c - a) (d - b) (e - a) (f - b) hD z3 h1 (by grind) (by grind)
  have hz : 0 < z3 := by grind
  have hn : ¬ z3.num = 0 := by have := num_pos.2 hz; omega
  have hlg := (det_lg hp.2.2.1 hp.2.2.2 hq.2.2.1 hq.2.2.2 hr.2.2.1 hr.2.2.2).div y3
  refine ⟨det a b c d e f / z3, ?_, ?_, ?_, hlg.fit (by omega)⟩
  · show quoQ _ _ = _
    unfold quoQ
    rw [if_neg hn]
    exact hlg.cut (by omega)
  · rw [Rat.lt_div_iff hz, Rat.zero_mul]; exact hD
  · rw [Rat.div_lt_iff hz]; grind
/-- A triangle overlaps itself. -/
theorem over_self {k : Nat} {p q r : PV} {a b c d e f : Rat} (hp : AtP k p a b) (hq : AtP k q c d) (hr : AtP k r e f) (hk : 8 * k + 5 ≤ 216) (hD : 0 < det a b c d e f) : ovB [p, q, r] [p, q, r] = true := by
  have hpr : properB [p, q, r] = true := by rw [proper_at hp hq hr hk, decide_eq_true hD]
  obtain ⟨t1, t2, t3⟩ := tri_of hpr
  have e2 : det c d e f a b = det a b c d e f := by unfold det; grind
  have e3 : det e f a b c d = det a b c d e f := by unfold det; grind
  have r1 : rB p q r = true := by rw [rB_at hp hq hr hk, decide_eq_true hD]
  have r2 : rB q r p = true := by rw [rB_at hq hr hp hk, e2, decide_eq_true hD]
  have r3 : rB r p q = true := by rw [rB_at hr hp hq hk, e3, decide_eq_true hD]
  unfold ovB
  rw [t1, t2, t3]
  unfold sepB reachB
  rw [r1, r2, r3]
  simp
/-- Its neighbour across the first side has the same area and does not overlap it. -/
theorem det_far (a b c d e f : Rat) : det c d a b (a + c - e) (b + d - f) = det a b c d e f := by unfold det; grind
theorem over_far {k : Nat} {p q r s : PV} {a b c d e f : Rat} (hp : AtP k p a b) (hq : AtP k q c d) (hr : AtP k r e f) (hs : AtP k s (a + c - e) (b + d - f)) (hk : 8 * k + 5 ≤ 216) (hD : 0 < det a b c d e f) :
    properB [q, p, s] = true ∧ ovB [p, q, r] [q, p, s] = false ∧ ovB [q, p, s] [p, q, r] = false := by
  have hpr : properB [p, q, r] = true := by rw [proper_at hp hq hr hk, decide_eq_true hD]
  have hps : properB [q, p, s] = true := by rw [proper_at hq hp hs hk, det_far, decide_eq_true hD]
  obtain ⟨t1, t2, t3⟩ := tri_of hpr
  obtain ⟨u1, u2, u3⟩ := tri_of hps
  have z1 : det a b c d c d = 0 := by unfold det; grind
  have z2 : det a b c d a b = 0 := by unfold det; grind
  have z3 : det a b c d (a + c - e) (b + d - f) = - det a b c d e f := by unfold det; grind
  have n3 : ¬ 0 < - det a b c d e f := by grind
  have r1 : rB p q q = false := by rw [rB_at hp hq hq hk, z1]; decide
  have r2 : rB p q p = false := by rw [rB_at hp hq hp hk, z2]; decide
  have r3 : rB p q s = false := by rw [rB_at hp hq hs hk, z3, decide_eq_false n3]
  have hsep : sepB p q r q p s = true := by unfold sepB reachB; rw [r1, r2, r3]; rfl
  unfold ovB
  rw [t1, t2, t3, u1, u2, u3, hsep]
  exact ⟨hps, rfl, by simp⟩
theorem half_at {k : Nat} {p q r : PV} {a b c d e f : Rat} (hp : AtP k p a b) (hq : AtP k q c d) (hr : AtP k r e f) (hk : 8 * k + 6 ≤ 216) (hD : 0 < det a b c d e f) : halfA [p, q, r] = some (det a b c d e f * mkRat 1 2) ∧ Fit (det a b c d e f * mkRat 1 2) ∧ 0 < det a b c d e f * mkRat 1 2 := by
  have hpr : properB [p, q, r] = true := by rw [proper_at hp hq hr (by omega), decide_eq_true hD]
  have hl : Lg 1 (mkRat 1 2) := lg_mk (by decide) (by decide) (by decide)
  have hm := (det_lg hp.2.2.1 hp.2.2.2 hq.2.2.1 hq.2.2.2 hr.2.2.1 hr.2.2.2).mul hl
  unfold halfA
  rw [aT_yes hpr, aV_at hp hq hr (by omega)]
  have e : ofQ 1 2 = some (mkRat 1 2) := by
    unfold ofQ
    rw [makQ_yes (by have := ln_word (show (1 : Int).natAbs ≤ 9223372036854775808 by omega); omega) (by have := ln_word (show (2 : Int).natAbs ≤ 9223372036854775808 by omega); omega)]
    show (if 2 = 0 then none else cutQ (mkRat (sgn false 1) 2)) = _
    rw [if_neg (by decide)]
    exact hl.cut (by omega)
  rw [e]
  exact ⟨hm.cut (by omega), hm.fit (by omega), Rat.mul_pos hD (by decide)⟩
end Go.Proofs.YtaohiacpdljacaaGreat
