/-
  The numbers of the law of integrals.
-/
import Derived.Test.YtppdholccpgcpaaGreatElM
import Derived.Test.YtppdholccpgcpaaGreatMkVec
namespace Go.Proofs.YtppdholccpgcpaaGreat
open Go.ChangeShapes Go.WideShapes Go.ChangeAt Go.RowKit
set_option linter.unusedVariables false
set_option linter.unusedSimpArgs false
set_option maxRecDepth 4000
def ones (b0 b1 b2 : Ad) : List RV := [⟨rfi 1, b0⟩, ⟨rfi 1, b1⟩, ⟨rfi 1, b2⟩]
theorem few_lg {o : Option Rat} (h : Few o) : ∃ z, o = some z ∧ Lg 2 z := by
  obtain ⟨x, y, h0, h1, h2, h3, rfl⟩ := h
  have lx := ln_word (show x.natAbs ≤ 9223372036854775808 by omega)
  have ly := ln_word (show y.natAbs ≤ 9223372036854775808 by omega)
  have hl : Lg 2 (mkRat (sgn (!(zn x == zn y)) x.natAbs) y.natAbs) := lg_mk (by omega) (by rw [sgn_abs]; omega) (by omega)
  refine ⟨_, ?_, hl⟩
  unfold ofQ
  rw [makQ_yes (by omega) (by omega)]
  unfold lowQ
  rw [if_neg (by omega)]
  exact hl.cut (by omega)
theorem third_q : ofQ 1 3 = some (mkRat 1 3) ∧ Lg 1 (mkRat 1 3) := by
  have hl : Lg 1 (mkRat 1 3) := lg_mk (by decide) (by decide) (by decide)
  refine ⟨?_, hl⟩
  unfold ofQ
  rw [makQ_yes (by have := ln_word (show (1 : Int).natAbs ≤ 9223372036854775808 by omega); omega) (by have := ln_word (show (3 : Int).natAbs ≤ 9223372036854775808 by omega); omega)]
  show (if 3 = 0 then none else cutQ (mkRat (sgn false 1) 3)) = _
  rw [if_neg (by decide)]
  exact hl.cut (by omega)
structure Vals (U : List RV) (u : Nat → Rat) : Prop where
  len : U.length = 3
  lg : ∀ i, Lg 2 (u i)
  val : ∀ i, i < 3 → valU U i = some (u i)
  ok : validB U = true
  dat : ∀ i p, U[i]? = some p → p.x = ofO (some (u i))
theorem vals_of {U : List RV} (hU : U.length = 3) (hF : ∀ p, p ∈ U → ∃ r, Few r ∧ p.x = ofO r) : ∃ u, Vals U u := by
  obtain ⟨x, y, z, rfl⟩ : ∃ x y z, U = [x, y, z] := by
    match U, hU with
    | [x, y, z], _ => exact ⟨x, y, z, rfl⟩
  have k : ∀ p, p ∈ [x, y, z] → ∃ v, p.x = ofO (some v) ∧ Lg 2 v := fun p hp => by
    obtain ⟨r, hr, e⟩ := hF p hp
    obtain ⟨v, rfl, l⟩ := few_lg hr
    exact ⟨v, e, l⟩
  obtain ⟨a, ha, la⟩ := k x (by simp)
  obtain ⟨b, hb, lb⟩ := k y (by simp)
  obtain ⟨c, hc, lc⟩ := k z (by simp)
  have vv : ∀ {v : Rat}, Lg 2 v → valx (ofO (some v)) = some v := fun l => valx_ofO (fitO_some (l.fit (by omega)))
  have oo : ∀ {v : Rat}, Lg 2 v → okx (ofO (some v)) = true := fun l => by rw [okx_ofO (fitO_some (l.fit (by omega)))]; rfl
  refine ⟨three a b c, rfl, fun i => ?_, fun i hi => ?_, ?_, fun i p hp => ?_⟩
  · unfold three
    split
    · exact la
    · split
      · exact lb
      · exact lc
  · have hc' : i = 0 ∨ i = 1 ∨ i = 2 := by omega
    rcases hc' with rfl | rfl | rfl
    · show valx x.x = _; rw [ha, vv la]; rfl
    · show valx y.x = _; rw [hb, vv lb]; rfl
    · show valx z.x = _; rw [hc, vv lc]; rfl
  · show (okx x.x && (okx y.x && (okx z.x && true))) = true
    rw [ha, hb, hc, oo la, oo lb, oo lc]; rfl
  · have hl := lt_of_getQ hp
    have hc' : i = 0 ∨ i = 1 ∨ i = 2 := by simp at hl; omega
    rcases hc' with rfl | rfl | rfl
    · injection hp with hp; subst hp; exact ha
    · injection hp with hp; subst hp; exact hb
    · injection hp with hp; subst hp; exact hc
theorem one_lg : Lg 1 (1 : Rat) := ⟨by decide, by decide⟩
theorem one_val : valx (rfi 1) = some 1 := (rfi_at 1 (by omega) (by omega)).1
theorem ones_val (b0 b1 b2 : Ad) : Vals (ones b0 b1 b2) (fun _ => 1) := by
  refine ⟨rfl, fun _ => one_lg.more (by omega), fun i hi => ?_, ?_, fun i p hp => ?_⟩
  · have hc' : i = 0 ∨ i = 1 ∨ i = 2 := by omega
    rcases hc' with rfl | rfl | rfl <;> exact one_val
  · have e : okx (rfi 1) = true := by rw [okx_eq, one_val]; rfl
    show (okx (rfi 1) && (okx (rfi 1) && (okx (rfi 1) && true))) = true
    rw [e]; rfl
  · have hl := lt_of_getQ hp
    have hc' : i = 0 ∨ i = 1 ∨ i = 2 := by simp [ones] at hl; omega
    rcases hc' with rfl | rfl | rfl
    · injection hp with hp; subst hp; rfl
    · injection hp with hp; subst hp; rfl
    · injection hp with hp; subst hp; rfl
theorem ok12_vals {L : List PV} {U : List RV} {u : Nat → Rat} (hp : properB L = true) (h : Vals U u) : ok12 L U = true := by
  unfold ok12
  rw [hp, h.ok, h.len]; rfl
def cS (u v : Nat → Rat) : Nat → Rat
  | 0 => 0
  | t + 1 => cS u v t + mkRat 1 (if t / 3 = t % 3 then 6 else 12) * (u (t / 3) * v (t % 3))
theorem sixth_lg2 (b : Prop) [Decidable b] : Lg 2 (mkRat 1 (if b then 6 else 12)) := by
  split
  · exact sixth_q.2.more (by omega)
  · exact twelfth_q.2
theorem cS_lg {u v : Nat → Rat} (hu : ∀ i, Lg 2 (u i)) (hv : ∀ i, Lg 2 (v i)) (t : Nat) : Lg (7 * t + 1) (cS u v t) := by
  induction t with
  | zero => exact lg_zero
  | succ t ih => exact (ih.add ((sixth_lg2 (t / 3 = t % 3)).mul ((hu _).mul (hv _)))).more (by omega)
theorem acc_at {p q r : PV} {A : Rat} (lA : Lg 30 A) (eA : areaQ [p, q, r] = some A) {U V : List RV} {u v : Nat → Rat} (hu : Vals U u) (hv : Vals V v) (t : Nat) (ht : t ≤ 9) : accP [p, q, r] U V t = some (A * cS u v t) := by
  induction t with
  | zero => show some (0 : Rat) = some (A * 0); congr 1; grind
  | succ t ih =>
    have h1 := mass_at lA eA (t / 3) (t % 3)
    have l2 := (hu.lg (t / 3)).mul (hv.lg (t % 3))
    have l1 := lA.mul (cS_lg hu.lg hv.lg t)
    have l3 := h1.2.mul l2
    show binQ addQ (accP [p, q, r] U V t) (binQ mulQ (massF [p, q, r] (t / 3) (t % 3)) (binQ mulQ (valU U (t / 3)) (valU V (t % 3)))) = _
    rw [ih (by omega), h1.1, hu.val _ (by omega), hv.val _ (by omega), mulS (hu.lg _) (hv.lg _) (by omega), mulS h1.2 l2 (by omega), addS l1 l3 (by omega)]
    congr 1
    unfold mst
    show A * cS u v t + A * mkRat 1 _ * (u (t / 3) * v (t % 3)) = A * (cS u v t + mkRat 1 _ * (u (t / 3) * v (t % 3)))
    grind
theorem cS_ones (u : Nat → Rat) : cS u (fun _ => 1) 9 = mkRat 1 3 * (u 0 + u 1 + u 2) := by
  have h6 : (6 : Rat) * mkRat 1 6 = 1 := by decide +kernel
  have h12 : (12 : Rat) * mkRat 1 12 = 1 := by decide +kernel
  have h3 : (3 : Rat) * mkRat 1 3 = 1 := by decide +kernel
  show 0 + mkRat 1 6 * (u 0 * 1) + mkRat 1 12 * (u 0 * 1) + mkRat 1 12 * (u 0 * 1) + mkRat 1 12 * (u 1 * 1) + mkRat 1 6 * (u 1 * 1) + mkRat 1 12 * (u 1 * 1) + mkRat 1 12 * (u 2 * 1) + mkRat 1 12 * (u 2 * 1) + mkRat 1 6 * (u 2 * 1) = _
  generalize mkRat 1 6 = s at h6 ⊢
  generalize mkRat 1 12 = t at h12 ⊢
  generalize mkRat 1 3 = r at h3 ⊢
  have e1 : s = 2 * t := by grind
  have e2 : r = 4 * t := by grind
  rw [e1, e2]
  grind
theorem prod_ones {p q r : PV} {A : Rat} (lA : Lg 30 A) (eA : areaQ [p, q, r] = some A) (hp : properB [p, q, r] = true) {U : List RV} {u : Nat → Rat} (hu : Vals U u) (b0 b1 b2 : Ad) : prodO [p, q, r] U (ones b0 b1 b2) = some (A * (mkRat 1 3 * (u 0 + u 1 + u 2))) := by
  have hv := ones_val b0 b1 b2
  have okM : okF (massF [p, q, r]) 3 3 = true := okF_all (fun i j _ _ => (mass_at lA eA i j).1)
  unfold prodO
  rw [if_pos ⟨ok12_vals hp hu, ok12_vals hp hv, okM⟩, acc_at lA eA hu hv 9 (Nat.le_refl _), cS_ones]
theorem sc_one {x y : Rat} {k : Nat} (hx : Lg k x) (hy : Lg k y) (hk : k + 1 ≤ 216) : scX (some 1) (some x) (some y) = some x ∧ scY (some 1) (some x) (some y) = some y := by
  unfold scX scY
  rw [mulS one_lg hx (by omega), mulS one_lg hy (by omega), (both_some _ _).1, (both_some _ _).2]
  constructor <;> (congr 1; grind)
theorem grad_ones {p q r : PV} {gx gy : Nat → Rat} (hp : properB [p, q, r] = true) (lg : ∀ i, Lg 36 (gx i) ∧ Lg 36 (gy i)) (hx : gx 0 + gx 1 + gx 2 = 0) (hy : gy 0 + gy 1 + gy 2 = 0)
    (eG : gradL [p, q, r] = [⟨ofO (some (gx 0)), ofO (some (gy 0)), noA, noA⟩, ⟨ofO (some (gx 1)), ofO (some (gy 1)), noA, noA⟩, ⟨ofO (some (gx 2)), ofO (some (gy 2)), noA, noA⟩]) (b0 b1 b2 : Ad) : lgO [p, q, r] (ones b0 b1 b2) = (some 0, some 0) := by
  have hv := ones_val b0 b1 b2
  have k1 : ∀ i, valx (ofO (some (gx i))) = some (gx i) := fun i => valx_ofO (fitO_some ((lg i).1.fit (by omega)))
  have k2 : ∀ i, valx (ofO (some (gy i))) = some (gy i) := fun i => valx_ofO (fitO_some ((lg i).2.fit (by omega)))
  have st : ∀ (k : Nat) (x y : Rat) (i : Nat), Lg k x → Lg k y → k + 37 ≤ 216 → lgF (some x, some y) (rfi 1, ofO (some (gx i)), ofO (some (gy i))) = (some (x + gx i), some (y + gy i)) := fun k x y i lx ly hk => by
    unfold lgF
    dsimp only
    rw [one_val, k1, k2, (sc_one (lg i).1 (lg i).2 (by omega)).1, (sc_one (lg i).1 (lg i).2 (by omega)).2, addS lx (lg i).1 (by omega), addS ly (lg i).2 (by omega), (both_some _ _).1, (both_some _ _).2]
  unfold lgO
  rw [if_pos ⟨ok12_vals hp hv, by rw [eG]; rfl⟩, eG]
  show lgF (lgF (lgF (some 0, some 0) (rfi 1, ofO (some (gx 0)), ofO (some (gy 0)))) (rfi 1, ofO (some (gx 1)), ofO (some (gy 1)))) (rfi 1, ofO (some (gx 2)), ofO (some (gy 2))) = _
  have l1x : Lg 38 (0 + gx 0) := (lg_zero.add (lg 0).1).more (by omega)
  have l1y : Lg 38 (0 + gy 0) := (lg_zero.add (lg 0).2).more (by omega)
  have l2x : Lg 75 (0 + gx 0 + gx 1) := (l1x.add (lg 1).1).more (by omega)
  have l2y : Lg 75 (0 + gy 0 + gy 1) := (l1y.add (lg 1).2).more (by omega)
  rw [st 1 0 0 0 lg_zero lg_zero (by omega), st 38 _ _ 1 l1x l1y (by omega), st 75 _ _ 2 l2x l2y (by omega)]
  rw [show 0 + gx 0 + gx 1 + gx 2 = 0 by grind, show 0 + gy 0 + gy 1 + gy 2 = 0 by grind]
end Go.Proofs.YtppdholccpgcpaaGreat
