/-
  The numbers of the law of local matrices.
-/
import Derived.Test.YtppdholccpgcpaaGreatAppT
import Derived.Test.YtppdholccpgcpaaGreatShM
import Derived.Test.YtppdholccpgcpaaGreatMkTri
namespace Go.Proofs.YtppdholccpgcpaaGreat
open Go.ChangeShapes Go.WideShapes Go.ChangeAt Go.RowKit
set_option linter.unusedVariables false
set_option linter.unusedSimpArgs false
set_option maxRecDepth 4000
theorem sixth_q : ofQ 1 6 = some (mkRat 1 6) ∧ Lg 1 (mkRat 1 6) := by
  have hl : Lg 1 (mkRat 1 6) := lg_mk (by decide) (by decide) (by decide)
  refine ⟨?_, hl⟩
  unfold ofQ
  rw [makQ_yes (by have := ln_word (show (1 : Int).natAbs ≤ 9223372036854775808 by omega); omega) (by have := ln_word (show (6 : Int).natAbs ≤ 9223372036854775808 by omega); omega)]
  show (if 6 = 0 then none else cutQ (mkRat (sgn false 1) 6)) = _
  rw [if_neg (by decide)]
  exact hl.cut (by omega)
theorem twelfth_q : ofQ 1 12 = some (mkRat 1 12) ∧ Lg 2 (mkRat 1 12) := by
  have hl : Lg 2 (mkRat 1 12) := lg_mk (by decide) (by decide) (by decide)
  refine ⟨?_, hl⟩
  unfold ofQ
  rw [makQ_yes (by have := ln_word (show (1 : Int).natAbs ≤ 9223372036854775808 by omega); omega) (by have := ln_word (show (12 : Int).natAbs ≤ 9223372036854775808 by omega); omega)]
  show (if 12 = 0 then none else cutQ (mkRat (sgn false 1) 12)) = _
  rw [if_neg (by decide)]
  exact hl.cut (by omega)
theorem half2_q : ofQ 1 2 = some (mkRat 1 2) ∧ Lg 1 (mkRat 1 2) := by
  have hl : Lg 1 (mkRat 1 2) := lg_mk (by decide) (by decide) (by decide)
  refine ⟨?_, hl⟩
  unfold ofQ
  rw [makQ_yes (by have := ln_word (show (1 : Int).natAbs ≤ 9223372036854775808 by omega); omega) (by have := ln_word (show (2 : Int).natAbs ≤ 9223372036854775808 by omega); omega)]
  show (if 2 = 0 then none else cutQ (mkRat (sgn false 1) 2)) = _
  rw [if_neg (by decide)]
  exact hl.cut (by omega)
theorem grad_sum0 (a c e t : Rat) : t * (c - e) + t * (e - a) + t * (a - c) = 0 := by grind
def three (x y z : Rat) (i : Nat) : Rat := if i = 0 then x else if i = 1 then y else z
theorem m_posr (x : Rat) : 0 < (ofO (some x)).m.length := by
  show 0 < (nd x.den).length
  rw [nd_length]; have := ln_pos x.den_pos; omega
theorem el_grad (p q r : PV) (hp : DdP 3 p) (hq : DdP 3 q) (hr : DdP 3 r) (hpr : properB [p, q, r] = true) : ∃ (A : Rat) (gx gy : Nat → Rat),
    Lg 30 A ∧ 0 < A ∧ areaQ [p, q, r] = some A ∧ (∀ i, Lg 36 (gx i) ∧ Lg 36 (gy i)) ∧ (gx 0 + gx 1 + gx 2 = 0) ∧ (gy 0 + gy 1 + gy 2 = 0) ∧
    gradL [p, q, r] = [⟨ofO (some (gx 0)), ofO (some (gy 0)), noA, noA⟩, ⟨ofO (some (gx 1)), ofO (some (gy 1)), noA, noA⟩, ⟨ofO (some (gx 2)), ofO (some (gy 2)), noA, noA⟩] := by
  obtain ⟨a, b, hA⟩ := hp.at (by omega)
  obtain ⟨c, d, hB⟩ := hq.at (by omega)
  obtain ⟨e, f, hC⟩ := hr.at (by omega)
  have hD : 0 < det a b c d e f := by
    have h := proper_at hA hB hC (by omega)
    rw [hpr] at h
    exact of_decide_eq_true h.symm
  have lD : Lg 29 (det a b c d e f) := (det_lg hA.2.2.1 hA.2.2.2 hB.2.2.1 hB.2.2.2 hC.2.2.1 hC.2.2.2).more (by omega)
  have aD := aV_at hA hB hC (by omega)
  obtain ⟨t1, t2, t3⟩ := tri_yes hpr
  generalize det a b c d e f = D at hD lD aD
  have nn : D.num ≠ 0 := by have := num_pos.2 hD; omega
  have lI : Lg 29 D⁻¹ := lD.inv
  have eI : invO (aV p q r) = some D⁻¹ := by
    rw [aD]
    show invQ D = _
    unfold invQ
    rw [if_neg nn]
  have gr : ∀ {j k : PV} {jx jy kx ky : Rat}, AtP 3 j jx jy → AtP 3 k kx ky → tX j k (some D⁻¹) = some (D⁻¹ * (jy - ky)) ∧ tY j k (some D⁻¹) = some (D⁻¹ * (kx - jx)) ∧ Lg 36 (D⁻¹ * (jy - ky)) ∧ Lg 36 (D⁻¹ * (kx - jx)) := fun {j k jx jy kx ky} hj hk => by
    have m1 : Lg 36 (D⁻¹ * (jy - ky)) := (lI.mul (hj.2.2.2.sub hk.2.2.2)).more (by omega)
    have m2 : Lg 36 (D⁻¹ * (kx - jx)) := (lI.mul (hk.2.2.1.sub hj.2.2.1)).more (by omega)
    refine ⟨?_, ?_, m1, m2⟩
    · unfold tX nX nY
      rw [hj.1, hj.2.1, hk.1, hk.2.1, subS hj.2.2.2 hk.2.2.2 (by omega), subS hk.2.2.1 hj.2.2.1 (by omega), (both_some _ _).1, (both_some _ _).2, mulS lI (hj.2.2.2.sub hk.2.2.2) (by omega), mulS lI (hk.2.2.1.sub hj.2.2.1) (by omega), (both_some _ _).1]
    · unfold tY nX nY
      rw [hj.1, hj.2.1, hk.1, hk.2.1, subS hj.2.2.2 hk.2.2.2 (by omega), subS hk.2.2.1 hj.2.2.1 (by omega), (both_some _ _).1, (both_some _ _).2, mulS lI (hj.2.2.2.sub hk.2.2.2) (by omega), mulS lI (hk.2.2.1.sub hj.2.2.1) (by omega), (both_some _ _).2]
  obtain ⟨g1, g2, g3, g4⟩ := gr hB hC
  obtain ⟨g5, g6, g7, g8⟩ := gr hC hA
  obtain ⟨g9, g10, g11, g12⟩ := gr hA hB
  clear gr
  have GX := grad_sum0 b d f D⁻¹
  have GY := grad_sum0 a c e D⁻¹
  generalize D⁻¹ = T at eI lI g1 g2 g3 g4 g5 g6 g7 g8 g9 g10 g11 g12 GX GY
  have hh := half2_q
  refine ⟨D * mkRat 1 2, three (T * (d - f)) (T * (f - b)) (T * (b - d)), three (T * (e - c)) (T * (a - e)) (T * (c - a)), lD.mul hh.2, Rat.mul_pos hD (by decide +kernel), ?_, ?_, ?_, ?_, ?_⟩
  · unfold areaQ
    rw [aT_yes hpr, aD, hh.1, mulS lD hh.2 (by omega)]
  · intro i
    unfold three
    split
    · exact ⟨g3, g4⟩
    · split
      · exact ⟨g7, g8⟩
      · exact ⟨g11, g12⟩
  · show T * (d - f) + T * (f - b) + T * (b - d) = 0
    grind
  · show T * (e - c) + T * (a - e) + T * (c - a) = 0
    grind
  · unfold gradL gradV
    rw [t1, t2, t3, aT_yes hpr, eI, g1, g2, g5, g6, g9, g10]
    unfold gl3
    rw [if_pos ⟨m_posr _, m_posr _, m_posr _⟩]
    rfl
def mst (A : Rat) (i j : Nat) : Rat := A * mkRat 1 (if i = j then 6 else 12)
theorem mass_at {p q r : PV} {A : Rat} (lA : Lg 30 A) (eA : areaQ [p, q, r] = some A) (i j : Nat) : massF [p, q, r] i j = some (mst A i j) ∧ Lg 32 (mst A i j) := by
  unfold massF mst
  rw [eA]
  split
  · exact ⟨by rw [sixth_q.1, mulS lA sixth_q.2 (by omega)], (lA.mul sixth_q.2).more (by omega)⟩
  · exact ⟨by rw [twelfth_q.1, mulS lA twelfth_q.2 (by omega)], lA.mul twelfth_q.2⟩
theorem okF_all {F : Nat → Nat → Option Rat} {G : Nat → Nat → Rat} {m n : Nat} (h : ∀ i j, i < m → j < n → F i j = some (G i j)) : okF F m n = true := by
  unfold okF
  rw [List.all_eq_true]
  intro i hi
  rw [List.all_eq_true]
  intro j hj
  rw [h i j (List.mem_range.1 hi) (List.mem_range.1 hj)]; rfl
instance (e : Nat) (r : Rat) : Decidable (Lg e r) := by unfold Lg; infer_instance
end Go.Proofs.YtppdholccpgcpaaGreat
