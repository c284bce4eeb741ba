/-
  What the law of integrals asks of the program's functions, between opaque parts.
-/
import Derived.Test.YtppdholccpgcpaaGreatLawP
import Derived.Test.YtppdholccpgcpaaGreatInMath
import Derived.Test.YtppdholccpgcpaaGreatItI
import Derived.Test.YtppdholccpgcpaaGreatVaI
import Derived.Test.YtppdholccpgcpaaGreatPiI
import Derived.Test.YtppdholccpgcpaaGreatLgI
import Derived.Test.YtppdholccpgcpaaGreatInV
namespace Go.Proofs.YtppdholccpgcpaaGreat
open Go.ChangeShapes Go.WideShapes Go.ChangeAt Go.RowKit
set_option linter.unusedVariables false
set_option linter.unusedSimpArgs false
set_option maxRecDepth 4000
theorem zero_div {D : Rat} (h : D.num ≠ 0) : binQ quoQ (some 0) (some D) = some 0 := by
  show quoQ 0 D = _
  unfold quoQ
  rw [if_neg h, show (0 : Rat) / D = 0 by grind]
  exact cutQ_in (lg_zero.fit (by omega))
theorem self_div {D : Rat} (h : D.num ≠ 0) : binQ quoQ (some D) (some D) = some 1 := by
  have h0 : D ≠ 0 := fun e => by rw [e] at h; exact h rfl
  show quoQ D D = _
  unfold quoQ
  rw [if_neg h, show D / D = 1 by grind]
  exact cutQ_in (one_lg.fit (by omega))
theorem coord_at {p q r : PV} (hp : DdP 3 p) (hq : DdP 3 q) (hr : DdP 3 r) (hpr : properB [p, q, r] = true) : cO p q r q 0 = some 0 ∧ cO p q r q 1 = some 1 ∧ cO p q r q 2 = some 0 := by
  obtain ⟨a, b, hA⟩ := hp.at (by omega)
  obtain ⟨c, d, hB⟩ := hq.at (by omega)
  obtain ⟨e, f, hC⟩ := hr.at (by omega)
  have hD : 0 < det a b c d e f := by
    have h := proper_at hA hB hC (by omega)
    rw [hpr] at h
    exact of_decide_eq_true h.symm
  have aD := aV_at hA hB hC (by omega)
  have a0 : aV q q r = some 0 := by rw [aV_at hB hB hC (by omega)]; congr 1; unfold det; grind
  have a2 : aV p q q = some 0 := by rw [aV_at hA hB hB (by omega)]; congr 1; unfold det; grind
  generalize det a b c d e f = D at hD aD
  have nn : D.num ≠ 0 := by have := num_pos.2 hD; omega
  refine ⟨?_, ?_, ?_⟩
  · show binQ quoQ (aV q q r) (aV p q r) = _
    rw [a0, aD]; exact zero_div nn
  · show binQ quoQ (aV p q r) (aV p q r) = _
    rw [aD]; exact self_div nn
  · show binQ quoQ (aV p q q) (aV p q r) = _
    rw [a2, aD]; exact zero_div nn
theorem val_at {F : Nat → Option Rat} (h0 : F 0 = some 0) (h1 : F 1 = some 1) (h2 : F 2 = some 0) {U : List RV} {u : Nat → Rat} (hu : Vals U u) : accV F U 3 = some (u 1) := by
  show binQ addQ (binQ addQ (binQ addQ (some 0) (binQ mulQ (valU U 0) (F 0))) (binQ mulQ (valU U 1) (F 1))) (binQ mulQ (valU U 2) (F 2)) = _
  have l0 : Lg 2 (0 : Rat) := lg_zero.more (by omega)
  have l1 : Lg 2 (1 : Rat) := one_lg.more (by omega)
  rw [h0, h1, h2, hu.val 0 (by omega), hu.val 1 (by omega), hu.val 2 (by omega), mulS (hu.lg 0) l0 (by omega), mulS (hu.lg 1) l1 (by omega), mulS (hu.lg 2) l0 (by omega)]
  rw [show u 0 * 0 = 0 by grind, show u 1 * 1 = u 1 by grind, show u 2 * 0 = 0 by grind]
  rw [addS l0 l0 (by omega), show (0 : Rat) + 0 = 0 by grind, addS l0 (hu.lg 1) (by omega), show 0 + u 1 = u 1 by grind, addS (hu.lg 1) l0 (by omega)]
  congr 1; grind
theorem int_at {s : Option Rat} {A : Rat} (lA : Lg 30 A) (eA : s = some A) {U : List RV} {u : Nat → Rat} (hu : Vals U u) : intO s U = some (A * (mkRat 1 3 * (u 0 + u 1 + u 2))) ∧ Fit (A * (mkRat 1 3 * (u 0 + u 1 + u 2))) := by
  have ht := third_q
  have l1 := (hu.lg 0).add (hu.lg 1)
  have l2 := l1.add (hu.lg 2)
  have l3 := l2.mul ht.2
  have l4 := lA.mul l3
  have e : A * (mkRat 1 3 * (u 0 + u 1 + u 2)) = A * ((u 0 + u 1 + u 2) * mkRat 1 3) := by grind
  unfold intO sum3
  rw [eA, hu.val 0 (by omega), hu.val 1 (by omega), hu.val 2 (by omega), ht.1, addS (hu.lg 0) (hu.lg 1) (by omega), addS l1 (hu.lg 2) (by omega), mulS l2 ht.2 (by omega), mulS lA l3 (by omega), e]
  exact ⟨rfl, l4.fit (by omega)⟩
theorem ddp_nice {k : Nat} {p : PV} (h : DdP k p) (hk : k ≤ 216) : NiceP p ∧ okP p = true := by
  obtain ⟨⟨x, e, l⟩, y, e', l'⟩ := h
  have h1 : okx p.x = true := by rw [e, okx_ofO (fitO_some (l.fit hk))]; rfl
  have h2 : okx p.y = true := by rw [e', okx_ofO (fitO_some (l'.fit hk))]; rfl
  have h3 : okP p = true := by unfold okP; rw [h1, h2]; rfl
  exact ⟨niceP_ok h3, h3⟩
theorem len_vals {U : List RV} {u : Nat → Rat} (hu : Vals U u) : ∀ p, p ∈ U → LenQ p := fun p hp => by
  obtain ⟨i, hi⟩ := List.getElem?_of_mem hp
  have e := hu.dat i p hi
  have l := (fitO_some ((hu.lg i).fit (by omega))).len
  unfold LenQ
  rw [e]; omega
theorem all_integrals (p q r : PV) (hp : DdP 3 p) (hq : DdP 3 q) (hr : DdP 3 r) (hpr : properB [p, q, r] = true) (U : List RV) (hU : U.length = 3) (hF : ∀ p, p ∈ U → ∃ r, Few r ∧ p.x = ofO r) : ∃ I R V : R3,
    (∀ v, U[1]? = some v → v.x = V) ∧
    (∀ W, Calls Tryz.prog 22 #[.int .i64 1] W (MadeQ W.heap.size (rfi 1) W)) ∧
    (∀ A D d W, RdS W A (flat [p, q, r]) → Rds W (lrow [p, q, r]) → RdS W D (flatQ U) → Rds W (lrowQ U) → Calls Tryz.prog 32 #[.slice A 3 3, .slice D 3 d] W (MadeQ W.heap.size I W)) ∧
    (∀ A E b0 b1 b2 W, RdS W A (flat [p, q, r]) → Rds W (lrow [p, q, r]) → RdS W E (flatQ (ones b0 b1 b2)) → Rds W (lrowQ (ones b0 b1 b2)) → Calls Tryz.prog 32 #[.slice A 3 3, .slice E 3 3] W (MadeQ W.heap.size R W)) ∧
    (∀ a W, Rds W (rows I a) → Calls Tryz.prog 29 #[.agg (r3 I a)] W (fun e w' => e = .returned (.bool true) ∧ Below W.heap.size W w')) ∧
    (∀ A D d E b0 b1 b2 W, RdS W A (flat [p, q, r]) → Rds W (lrow [p, q, r]) → RdS W D (flatQ U) → Rds W (lrowQ U) → RdS W E (flatQ (ones b0 b1 b2)) → Rds W (lrowQ (ones b0 b1 b2)) → Calls Tryz.prog 33 #[.slice A 3 3, .slice D 3 d, .slice E 3 3] W (MadeQ W.heap.size I W)) ∧
    (∀ a b W, Rds W (rows I a) → Rds W (rows I b) → Calls Tryz.prog 20 #[.agg (r3 I a), .agg (r3 I b)] W (fun e w' => e = .returned (.bool true) ∧ Below W.heap.size W w')) ∧
    (∀ A W, RdS W A (flat [p, q, r]) → Rds W (lrow [p, q, r]) → Calls Tryz.prog 30 #[.slice A 3 3] W (MadeQ W.heap.size R W)) ∧
    (∀ a b W, Rds W (rows R a) → Rds W (rows R b) → Calls Tryz.prog 20 #[.agg (r3 R a), .agg (r3 R b)] W (fun e w' => e = .returned (.bool true) ∧ Below W.heap.size W w')) ∧
    (∀ A D d W, RdS W A (flat [p, q, r]) → Rds W (lrow [p, q, r]) → RdS W D (flatQ U) → Rds W (lrowQ U) → Rds W (prow q) → Calls Tryz.prog 34 #[.slice A 3 3, .slice D 3 d, .agg (p6 q)] W (MadeQ W.heap.size V W)) ∧
    (∀ a b W, Rds W (rows V a) → Rds W (rows V b) → Calls Tryz.prog 20 #[.agg (r3 V a), .agg (r3 V b)] W (fun e w' => e = .returned (.bool true) ∧ Below W.heap.size W w')) ∧
    (∀ A E b0 b1 b2 W, RdS W A (flat [p, q, r]) → Rds W (lrow [p, q, r]) → RdS W E (flatQ (ones b0 b1 b2)) → Rds W (lrowQ (ones b0 b1 b2)) → Calls Tryz.prog 35 #[.slice A 3 3, .slice E 3 3] W (MadeP W.heap.size (rfi 0) (rfi 0) W)) ∧
    (∀ W, Calls Tryz.prog 16 #[.int .i64 0, .int .i64 0] W (MadeP W.heap.size (rfi 0) (rfi 0) W)) ∧
    (∀ a b c d W, Rds W (rows (rfi 0) a ++ rows (rfi 0) b) → Rds W (rows (rfi 0) c ++ rows (rfi 0) d) → Calls Tryz.prog 19 #[.agg (r6 (rfi 0) (rfi 0) a b), .agg (r6 (rfi 0) (rfi 0) c d)] W (fun e w' => e = .returned (.bool true) ∧ Below W.heap.size W w')) := by
  obtain ⟨u, hu⟩ := vals_of hU hF
  obtain ⟨A, gx, gy, lA, pA, eA, lg, sx, sy, eG⟩ := el_grad p q r hp hq hr hpr
  obtain ⟨t1, t2, t3⟩ := tri_yes hpr
  have lp := hp.len (by omega)
  have lq := hq.len (by omega)
  have lr := hr.len (by omega)
  have hL3 := len3' lp lq lr
  have n3 : ([p, q, r] : List PV).length ≤ 9223372036854775807 := by simp
  have eH : aHalf (tri1 [p, q, r]) (tri2 [p, q, r]) (tri3 [p, q, r]) = some A := eA
  have c := coord_at hp hq hr hpr
  have nq := ddp_nice hq (by omega)
  have i1 := int_at lA eH hu
  have fA : Fit A := lA.fit (by omega)
  have fV : Fit (u 1) := (hu.lg 1).fit (by omega)
  have pU := prod_ones lA eA hpr hu
  have z0 : rfi 0 = ofO (some 0) := rfl
  have sh0 : Short (rfi 0) := by rw [z0]; exact (fitO_some (lg_zero.fit (by omega))).short
  refine ⟨ofO (some (A * (mkRat 1 3 * (u 0 + u 1 + u 2)))), ofO (some A), ofO (some (u 1)), fun v hv => hu.dat 1 v hv, ?_, ?_, ?_, ?_, ?_, ?_, ?_, ?_, ?_, ?_, ?_, ?_, ?_⟩
  · intro W
    exact (impl_rfi 1 W (by decide)).mono fun e w' k => MadeR.toQ (x := rfi 1) k
  · intro B D d W h h' k k'
    have K := impl_integralOf [p, q, r] B 3 U D d W n3 hL3 h h' hU (len_vals hu) hu.ok k k'
    rw [i1.1] at K; exact K
  · intro B E b0 b1 b2 W h h' k k'
    have ho := ones_val b0 b1 b2
    have K := impl_integralOf [p, q, r] B 3 (ones b0 b1 b2) E 3 W n3 hL3 h h' rfl (len_vals ho) ho.ok k k'
    have i2 := (int_at lA eH ho).1
    rw [i2, show A * (mkRat 1 3 * (1 + 1 + 1)) = A by
      have h3 : (3 : Rat) * mkRat 1 3 = 1 := by decide +kernel
      generalize mkRat 1 3 = t at h3 ⊢
      grind] at K
    exact K
  · intro a W h
    have l := (fitO_some i1.2).len
    have K := impl_rok (ofO (some (A * (mkRat 1 3 * (u 0 + u 1 + u 2))))).p (ofO (some (A * (mkRat 1 3 * (u 0 + u 1 + u 2))))).l (ofO (some (A * (mkRat 1 3 * (u 0 + u 1 + u 2))))).m a.A a.D _ a.c _ a.d W rfl rfl (by omega) (by omega) (rows_rd h).1 (rows_rd h).2
    rw [show okR (ofO (some (A * (mkRat 1 3 * (u 0 + u 1 + u 2))))).p (ofO (some (A * (mkRat 1 3 * (u 0 + u 1 + u 2))))).l (ofO (some (A * (mkRat 1 3 * (u 0 + u 1 + u 2))))).m = true from okx_ofO (fitO_some i1.2)] at K
    exact K
  · intro B D d E b0 b1 b2 W h h' k k' l l'
    have ho := ones_val b0 b1 b2
    have K := impl_productIntegral [p, q, r] B 3 U D d (ones b0 b1 b2) E 3 W n3 hL3 h h' (by rw [hU]; omega) (len_vals hu) k k' (by show 3 ≤ _; omega) (len_vals ho) l l'
    rw [pU b0 b1 b2, hU] at K
    exact K
  · intro a b W h h'
    have l := (fitO_some i1.2).len
    exact eq_any _ l.1 l.2 a b W h h'
  · intro B W h h'
    have K := impl_areaOf [p, q, r] B 3 W n3 hL3 h h'
    rw [show halfA [p, q, r] = some A from eA] at K
    exact K
  · intro a b W h h'
    have l := (fitO_some fA).len
    exact eq_any _ l.1 l.2 a b W h h'
  · intro B D d W h h' k k' hz
    have K := impl_valueIn [p, q, r] B 3 U D d q W n3 hL3 h h' hU (len_vals hu) hu.ok k k' lq nq.1 nq.2 hz
    rw [t1, t2, t3, val_at c.1 c.2.1 c.2.2 hu] at K
    exact K
  · intro a b W h h'
    have l := (fitO_some fV).len
    exact eq_any _ l.1 l.2 a b W h h'
  · intro B E b0 b1 b2 W h h' k k'
    have ho := ones_val b0 b1 b2
    have K := impl_localGradient [p, q, r] B 3 (ones b0 b1 b2) E 3 W n3 hL3 h h' (by show 3 ≤ _; omega) (len_vals ho) k k'
    rw [grad_ones hpr lg sx sy eG b0 b1 b2] at K
    exact K
  · intro W
    exact impl_pointAt 0 0 W (by decide) (by decide)
  · intro a b c d W h h'
    have K := impl_sameA (rfi 0) (rfi 0) (rfi 0) (rfi 0) a b c d W sh0 sh0 sh0 sh0 h h'
    rw [show (sameR (rfi 0) (rfi 0) && sameR (rfi 0) (rfi 0)) = true by simp [sameR]] at K
    exact K
end Go.Proofs.YtppdholccpgcpaaGreat
