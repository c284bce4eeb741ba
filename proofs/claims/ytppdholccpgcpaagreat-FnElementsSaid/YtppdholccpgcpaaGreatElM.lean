/-
  The numbers of the law of local matrices.
-/
import Derived.Test.YtppdholccpgcpaaGreatElW
import Derived.Test.YtppdholccpgcpaaGreatRm
import Derived.Test.YtppdholccpgcpaaGreatAppQ
import Derived.Test.YtppdholccpgcpaaGreatMatF
import Derived.Test.YtppdholccpgcpaaGreatLgI
import Derived.Test.YtppdholccpgcpaaGreatMkTri
namespace Go.Proofs.YtppdholccpgcpaaGreat
open Go.ChangeShapes Go.WideShapes Go.ChangeAt Go.RowKit
set_option linter.unusedVariables false
set_option linter.unusedSimpArgs false
set_option maxRecDepth 4000
def MatX (M : List SV) (X : Nat → Nat → R3) : Prop := M.length = 3 ∧ ∀ (i : Nat) (p : SV), M[i]? = some p → p.L.length = 3 ∧ ∀ (j : Nat) (q : RV), p.L[j]? = some q → q.x = X i j
theorem matX_of {M : List SV} {F : Nat → Nat → Option Rat} (h : datS M = datS (matF F 3 3)) : MatX M (fun i j => ofO (F i j)) := by
  have hM3 : M.length = 3 := by rw [datS_len h, matF_len]
  refine ⟨hM3, fun i p hp => ?_⟩
  obtain ⟨p0, hp0, e0⟩ := datS_get h.symm hp
  have hi : i < 3 := by have := lt_of_getS hp; omega
  have hi2 : p0 = ⟨rowF (F i) 3, none, 0⟩ := by
    unfold matF at hp0
    rw [List.getElem?_map, List.getElem?_range hi] at hp0
    injection hp0 with hp0; exact hp0.symm
  subst hi2
  have hl : p.L.length = 3 := by rw [datQ_len e0.symm, rowF_len]
  refine ⟨hl, fun j q hq => ?_⟩
  obtain ⟨q0, hq0, e1⟩ := datQ_get e0 hq
  have hj : j < 3 := by have := lt_of_getQ hq; omega
  unfold rowF at hq0
  rw [List.getElem?_map, List.getElem?_range hj] at hq0
  injection hq0 with hq0
  rw [← e1, ← hq0]
theorem sixth_q : ofQ 1 6 = some (mkRat 1 6) ∧ Lg 1 (mkRat 1 6) := by
  have hl : Lg 1 (mkRat 1 6) := lg_mk (by decide) (by decide) (by decide)
  refine ⟨?_, hl⟩
  unfold ofQ
  rw [makQ_yes (by have := ln_word (show (1 : Int).natAbs ≤ 9223372036854775808 by omega); omega) (by have := ln_word (show (6 : Int).natAbs ≤ 9223372036854775808 by omega); omega)]
  show (if 6 = 0 then none else cutQ (mkRat (sgn false 1) 6)) = _
  rw [if_neg (by decide)]
  exact hl.cut (by omega)
theorem twelfth_q : ofQ 1 12 = some (mkRat 1 12) ∧ Lg 2 (mkRat 1 12) := by
  have hl : Lg 2 (mkRat 1 12) := lg_mk (by decide) (by decide) (by decide)
  refine ⟨?_, hl⟩
  unfold ofQ
  rw [makQ_yes (by have := ln_word (show (1 : Int).natAbs ≤ 9223372036854775808 by omega); omega) (by have := ln_word (show (12 : Int).natAbs ≤ 9223372036854775808 by omega); omega)]
  show (if 12 = 0 then none else cutQ (mkRat (sgn false 1) 12)) = _
  rw [if_neg (by decide)]
  exact hl.cut (by omega)
theorem half2_q : ofQ 1 2 = some (mkRat 1 2) ∧ Lg 1 (mkRat 1 2) := by
  have hl : Lg 1 (mkRat 1 2) := lg_mk (by decide) (by decide) (by decide)
  refine ⟨?_, hl⟩
  unfold ofQ
  rw [makQ_yes (by have := ln_word (show (1 : Int).natAbs ≤ 9223372036854775808 by omega); omega) (by have := ln_word (show (2 : Int).natAbs ≤ 9223372036854775808 by omega); omega)]
  show (if 2 = 0 then none else cutQ (mkRat (sgn false 1) 2)) = _
  rw [if_neg (by decide)]
  exact hl.cut (by omega)
theorem grad_sum0 (a c e t : Rat) : t * (c - e) + t * (e - a) + t * (a - c) = 0 := by grind
def three (x y z : Rat) (i : Nat) : Rat := if i = 0 then x else if i = 1 then y else z
theorem m_posr (x : Rat) : 0 < (ofO (some x)).m.length := by
  show 0 < (nd x.den).length
  rw [nd_length]; have := ln_pos x.den_pos; omega
theorem el_grad (p q r : PV) (hp : DdP 3 p) (hq : DdP 3 q) (hr : DdP 3 r) (hpr : properB [p, q, r] = true) : ∃ (A : Rat) (gx gy : Nat → Rat),
    Lg 30 A ∧ 0 < A ∧ areaQ [p, q, r] = some A ∧ (∀ i, Lg 36 (gx i) ∧ Lg 36 (gy i)) ∧ (gx 0 + gx 1 + gx 2 = 0) ∧ (gy 0 + gy 1 + gy 2 = 0) ∧
    gradL [p, q, r] = [⟨ofO (some (gx 0)), ofO (some (gy 0)), noA, noA⟩, ⟨ofO (some (gx 1)), ofO (some (gy 1)), noA, noA⟩, ⟨ofO (some (gx 2)), ofO (some (gy 2)), noA, noA⟩] := by
  obtain ⟨a, b, hA⟩ := hp.at (by omega)
  obtain ⟨c, d, hB⟩ := hq.at (by omega)
  obtain ⟨e, f, hC⟩ := hr.at (by omega)
  have hD : 0 < det a b c d e f := by
    have h := proper_at hA hB hC (by omega)
    rw [hpr] at h
    exact of_decide_eq_true h.symm
  have lD : Lg 29 (det a b c d e f) := (det_lg hA.2.2.1 hA.2.2.2 hB.2.2.1 hB.2.2.2 hC.2.2.1 hC.2.2.2).more (by omega)
  have aD := aV_at hA hB hC (by omega)
  obtain ⟨t1, t2, t3⟩ := tri_yes hpr
  generalize det a b c d e f = D at hD lD aD
  have nn : D.num ≠ 0 := by have := num_pos.2 hD; omega
  have lI : Lg 29 D⁻¹ := lD.inv
  have eI : invO (aV p q r) = some D⁻¹ := by
    rw [aD]
    show invQ D = _
    unfold invQ
    rw [if_neg nn]
  have gr : ∀ {j k : PV} {jx jy kx ky : Rat}, AtP 3 j jx jy → AtP 3 k kx ky → tX j k (some D⁻¹) = some (D⁻¹ * (jy - ky)) ∧ tY j k (some D⁻¹) = some (D⁻¹ * (kx - jx)) ∧ Lg 36 (D⁻¹ * (jy - ky)) ∧ Lg 36 (D⁻¹ * (kx - jx)) := fun {j k jx jy kx ky} hj hk => by
    have m1 : Lg 36 (D⁻¹ * (jy - ky)) := (lI.mul (hj.2.2.2.sub hk.2.2.2)).more (by omega)
    have m2 : Lg 36 (D⁻¹ * (kx - jx)) := (lI.mul (hk.2.2.1.sub hj.2.2.1)).more (by omega)
    refine ⟨?_, ?_, m1, m2⟩
    · unfold tX nX nY
      rw [hj.1, hj.2.1, hk.1, hk.2.1, subS hj.2.2.2 hk.2.2.2 (by omega), subS hk.2.2.1 hj.2.2.1 (by omega), (both_some _ _).1, (both_some _ _).2, mulS lI (hj.2.2.2.sub hk.2.2.2) (by omega), mulS lI (hk.2.2.1.sub hj.2.2.1) (by omega), (both_some _ _).1]
    · unfold tY nX nY
      rw [hj.1, hj.2.1, hk.1, hk.2.1, subS hj.2.2.2 hk.2.2.2 (by omega), subS hk.2.2.1 hj.2.2.1 (by omega), (both_some _ _).1, (both_some _ _).2, mulS lI (hj.2.2.2.sub hk.2.2.2) (by omega), mulS lI (hk.2.2.1.sub hj.2.2.1) (by omega), (both_some _ _).2]
  obtain ⟨g1, g2, g3, g4⟩ := gr hB hC
  obtain ⟨g5, g6, g7, g8⟩ := gr hC hA
  obtain ⟨g9, g10, g11, g12⟩ := gr hA hB
  clear gr
  have GX := grad_sum0 b d f D⁻¹
  have GY := grad_sum0 a c e D⁻¹
  generalize D⁻¹ = T at eI lI g1 g2 g3 g4 g5 g6 g7 g8 g9 g10 g11 g12 GX GY
  have hh := half2_q
  refine ⟨D * mkRat 1 2, three (T * (d - f)) (T * (f - b)) (T * (b - d)), three (T * (e - c)) (T * (a - e)) (T * (c - a)), lD.mul hh.2, Rat.mul_pos hD (by decide +kernel), ?_, ?_, ?_, ?_, ?_⟩
  · unfold areaQ
    rw [aT_yes hpr, aD, hh.1, mulS lD hh.2 (by omega)]
  · intro i
    unfold three
    split
    · exact ⟨g3, g4⟩
    · split
      · exact ⟨g7, g8⟩
      · exact ⟨g11, g12⟩
  · show T * (d - f) + T * (f - b) + T * (b - d) = 0
    grind
  · show T * (e - c) + T * (a - e) + T * (c - a) = 0
    grind
  · unfold gradL gradV
    rw [t1, t2, t3, aT_yes hpr, eI, g1, g2, g5, g6, g9, g10]
    unfold gl3
    rw [if_pos ⟨m_posr _, m_posr _, m_posr _⟩]
    rfl
def stf (A : Rat) (gx gy : Nat → Rat) (i j : Nat) : Rat := A * (gx i * gx j + gy i * gy j)
def mst (A : Rat) (i j : Nat) : Rat := A * mkRat 1 (if i = j then 6 else 12)
theorem stiff_at {p q r : PV} {A : Rat} {gx gy : Nat → Rat} (lA : Lg 30 A) (eA : areaQ [p, q, r] = some A) (lg : ∀ i, Lg 36 (gx i) ∧ Lg 36 (gy i))
    (eG : gradL [p, q, r] = [⟨ofO (some (gx 0)), ofO (some (gy 0)), noA, noA⟩, ⟨ofO (some (gx 1)), ofO (some (gy 1)), noA, noA⟩, ⟨ofO (some (gx 2)), ofO (some (gy 2)), noA, noA⟩]) (i j : Nat) (hi : i < 3) (hj : j < 3) :
    stiffF [p, q, r] i j = some (stf A gx gy i j) ∧ Lg 175 (stf A gx gy i j) := by
  have hv : ∀ i, i < 3 → valx (gAt (gradL [p, q, r]) i).x = some (gx i) ∧ valx (gAt (gradL [p, q, r]) i).y = some (gy i) := fun i hi => by
    have k1 : ∀ i, valx (ofO (some (gx i))) = some (gx i) := fun i => valx_ofO (fitO_some ((lg i).1.fit (by omega)))
    have k2 : ∀ i, valx (ofO (some (gy i))) = some (gy i) := fun i => valx_ofO (fitO_some ((lg i).2.fit (by omega)))
    rw [eG]
    have hc : i = 0 ∨ i = 1 ∨ i = 2 := by omega
    rcases hc with rfl | rfl | rfl
    · exact ⟨k1 0, k2 0⟩
    · exact ⟨k1 1, k2 1⟩
    · exact ⟨k1 2, k2 2⟩
  have l1 := (lg i).1.mul (lg j).1
  have l2 := (lg i).2.mul (lg j).2
  have l3 := l1.add l2
  refine ⟨?_, (lA.mul l3).more (by omega)⟩
  unfold stiffF innE
  rw [eA, (hv i hi).1, (hv i hi).2, (hv j hj).1, (hv j hj).2, mulS (lg i).1 (lg j).1 (by omega), mulS (lg i).2 (lg j).2 (by omega), addS l1 l2 (by omega), mulS lA l3 (by omega)]
  rfl
theorem mass_at {p q r : PV} {A : Rat} (lA : Lg 30 A) (eA : areaQ [p, q, r] = some A) (i j : Nat) : massF [p, q, r] i j = some (mst A i j) ∧ Lg 32 (mst A i j) := by
  unfold massF mst
  rw [eA]
  split
  · exact ⟨by rw [sixth_q.1, mulS lA sixth_q.2 (by omega)], (lA.mul sixth_q.2).more (by omega)⟩
  · exact ⟨by rw [twelfth_q.1, mulS lA twelfth_q.2 (by omega)], lA.mul twelfth_q.2⟩
theorem okF_all {F : Nat → Nat → Option Rat} {G : Nat → Nat → Rat} {m n : Nat} (h : ∀ i j, i < m → j < n → F i j = some (G i j)) : okF F m n = true := by
  unfold okF
  rw [List.all_eq_true]
  intro i hi
  rw [List.all_eq_true]
  intro j hj
  rw [h i j (List.mem_range.1 hi) (List.mem_range.1 hj)]; rfl
def sumS (A : Rat) (gx gy : Nat → Rat) (i : Nat) : Nat → Rat
  | 0 => 0
  | j + 1 => sumS A gx gy i j + stf A gx gy i j
theorem sumS_facts {A : Rat} {gx gy : Nat → Rat} (lA : Lg 30 A) (lg : ∀ i, Lg 36 (gx i) ∧ Lg 36 (gy i)) (hx : gx 0 + gx 1 + gx 2 = 0) (hy : gy 0 + gy 1 + gy 2 = 0) (i : Nat) : sumS A gx gy i 3 = 0 ∧ ∀ j, j ≤ 3 → Lg 175 (sumS A gx gy i j) := by
  have l : ∀ i j, Lg 175 (stf A gx gy i j) := fun i j => (lA.mul (((lg i).1.mul (lg j).1).add ((lg i).2.mul (lg j).2))).more (by omega)
  have e1 : sumS A gx gy i 1 = stf A gx gy i 0 := by show 0 + stf A gx gy i 0 = _; grind
  have e2 : sumS A gx gy i 2 = - stf A gx gy i 2 := by
    show 0 + stf A gx gy i 0 + stf A gx gy i 1 = _
    unfold stf
    grind
  have e3 : sumS A gx gy i 3 = 0 := by
    show sumS A gx gy i 2 + stf A gx gy i 2 = 0
    rw [e2]; grind
  refine ⟨e3, fun j hj => ?_⟩
  have hc : j = 0 ∨ j = 1 ∨ j = 2 ∨ j = 3 := by omega
  rcases hc with rfl | rfl | rfl | rfl
  · exact (lg_zero).more (by omega)
  · rw [e1]; exact l i 0
  · rw [e2]; exact (l i 2).neg
  · rw [e3]; exact lg_zero.more (by omega)
def cnt : Nat → Rat
  | 0 => 0
  | t + 1 => cnt t + mkRat 1 (if t / 3 = t % 3 then 6 else 12)
def sumA (A : Rat) : Nat → Rat
  | 0 => 0
  | t + 1 => sumA A t + mst A (t / 3) (t % 3)
theorem sumA_cnt (A : Rat) (t : Nat) : sumA A t = A * cnt t := by
  induction t with
  | zero => show (0 : Rat) = A * 0; grind
  | succ t ih => show sumA A t + A * mkRat 1 _ = A * (cnt t + mkRat 1 _); rw [ih]; grind
instance (e : Nat) (r : Rat) : Decidable (Lg e r) := by unfold Lg; infer_instance
theorem cnt_lg : ∀ t, t < 10 → Lg 3 (cnt t) := by decide +kernel
theorem cnt_all : cnt 9 = 1 := by decide +kernel
theorem sumA_facts {A : Rat} (lA : Lg 30 A) : sumA A 9 = A ∧ ∀ t, t ≤ 9 → Lg 33 (sumA A t) := by
  refine ⟨by rw [sumA_cnt, cnt_all]; grind, fun t ht => ?_⟩
  rw [sumA_cnt]
  exact lA.mul (cnt_lg t (by omega))
end Go.Proofs.YtppdholccpgcpaaGreat
