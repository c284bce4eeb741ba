/-
  What the law of triangles asks of the program's functions, between opaque parts.
-/
import Derived.Test.YtppdholccpgcpaaGreatMkTri
import Derived.Test.YtppdholccpgcpaaGreatBary
import Derived.Test.YtppdholccpgcpaaGreatSide
import Derived.Test.YtppdholccpgcpaaGreatCent
import Derived.Test.YtppdholccpgcpaaGreatPtO
import Derived.Test.YtppdholccpgcpaaGreatGrI
import Derived.Test.YtppdholccpgcpaaGreatPkI
namespace Go.Proofs.YtppdholccpgcpaaGreat
open Go.ChangeShapes Go.WideShapes Go.ChangeAt Go.RowKit
open Go.ChangeMaps (open_string shut_string)
set_option linter.unusedVariables false
set_option linter.unusedSimpArgs false
set_option maxRecDepth 4000
theorem own_addr {B : Nat} {W : World} {A : Option Addr} {l : List Int} (h : OwnS B W A (vi l)) : l.length = 0 ∨ ∃ g, A = some ⟨g, 0, none⟩ := by
  rcases h with h | ⟨g, ha, _⟩
  · left; rw [← vi_length l, h]; rfl
  · exact .inr ⟨g, ha⟩
theorem okL {k : Nat} {x : Rat} (h : Lg k x) (hk : k ≤ 216) : okx (ofO (some x)) = true := by rw [okx_ofO (fitO_some (h.fit hk))]; rfl
theorem vS {k : Nat} {x : Rat} (h : Lg k x) (hk : k ≤ 216) : valx (ofO (some x)) = some x := valx_ofO (fitO_some (h.fit hk))
theorem lS {k : Nat} {x : Rat} (h : Lg k x) (hk : k ≤ 216) : (ofO (some x)).l.length ≤ 24 ∧ (ofO (some x)).m.length ≤ 24 := (fitO_some (h.fit hk)).len
theorem l9 {n : Nat} (h : n ≤ 24) : n ≤ 9223372036854775807 := Nat.le_trans h (by omega)
theorem l20 {n : Nat} (h : n ≤ 24) : n ≤ 1048576 := Nat.le_trans h (by omega)
theorem frac_q (n : Int) (h0 : 2 ≤ n) (h1 : n ≤ 3) : ofQ 1 n = some (mkRat 1 n.toNat) ∧ Lg 1 (mkRat 1 n.toNat) := by
  have hn : n = 2 ∨ n = 3 := by omega
  have hl : Lg 1 (mkRat 1 n.toNat) := by rcases hn with rfl | rfl <;> exact lg_mk (by decide) (by decide) (by decide)
  refine ⟨?_, hl⟩
  rcases hn with rfl | rfl
  · unfold ofQ
    rw [makQ_yes (by have := ln_word (show (1 : Int).natAbs ≤ 9223372036854775808 by omega); omega) (by have := ln_word (show (2 : Int).natAbs ≤ 9223372036854775808 by omega); omega)]
    show (if 2 = 0 then none else cutQ (mkRat (sgn false 1) 2)) = _
    rw [if_neg (by decide)]
    exact hl.cut (by omega)
  · unfold ofQ
    rw [makQ_yes (by have := ln_word (show (1 : Int).natAbs ≤ 9223372036854775808 by omega); omega) (by have := ln_word (show (3 : Int).natAbs ≤ 9223372036854775808 by omega); omega)]
    show (if 3 = 0 then none else cutQ (mkRat (sgn false 1) 3)) = _
    rw [if_neg (by decide)]
    exact hl.cut (by omega)
theorem add_c {k m : Nat} {x y u v : Rat} (hx : Lg k x) (hy : Lg k y) (hu : Lg m u) (hv : Lg m v) (h5 : k + m + 1 ≤ 216) (a b c d : Ad) (W : World) (h : Rds W (rows (ofO (some x)) a ++ rows (ofO (some y)) b)) (h' : Rds W (rows (ofO (some u)) c ++ rows (ofO (some v)) d)) :
    Calls Tryz.prog 17 #[.agg #[.bool (ofO (some x)).p, .slice a.A (ofO (some x)).l.length a.c, .slice a.D (ofO (some x)).m.length a.d, .bool (ofO (some y)).p, .slice b.A (ofO (some y)).l.length b.c, .slice b.D (ofO (some y)).m.length b.d], .agg #[.bool (ofO (some u)).p, .slice c.A (ofO (some u)).l.length c.c, .slice c.D (ofO (some u)).m.length c.d, .bool (ofO (some v)).p, .slice d.A (ofO (some v)).l.length d.c, .slice d.D (ofO (some v)).m.length d.d]] W (MadeP W.heap.size (ofO (some (x + u))) (ofO (some (y + v))) W) := by
  have hk : k ≤ 216 := by omega
  have hm : m ≤ 216 := by omega
  have K := impl_addP _ _ _ _ a b c d W (l9 (lS hx hk).1) (l9 (lS hx hk).2) (l9 (lS hy hk).1) (l9 (lS hy hk).2) (l9 (lS hu hm).1) (l9 (lS hu hm).2) (l9 (lS hv hm).1) (l9 (lS hv hm).2) h h'
  rw [vS hx hk, vS hy hk, vS hu hm, vS hv hm, addS hx hu h5, addS hy hv h5, (both_some _ _).1, (both_some _ _).2] at K
  exact K
theorem mid_c {k : Nat} {x y u v : Rat} (hx : Lg k x) (hy : Lg k y) (hu : Lg k u) (hv : Lg k v) (h5 : 2 * k + 2 ≤ 216) (a b c d : Ad) (W : World) (h : Rds W (rows (ofO (some x)) a ++ rows (ofO (some y)) b)) (h' : Rds W (rows (ofO (some u)) c ++ rows (ofO (some v)) d)) :
    Calls Tryz.prog 25 #[.agg #[.bool (ofO (some x)).p, .slice a.A (ofO (some x)).l.length a.c, .slice a.D (ofO (some x)).m.length a.d, .bool (ofO (some y)).p, .slice b.A (ofO (some y)).l.length b.c, .slice b.D (ofO (some y)).m.length b.d], .agg #[.bool (ofO (some u)).p, .slice c.A (ofO (some u)).l.length c.c, .slice c.D (ofO (some u)).m.length c.d, .bool (ofO (some v)).p, .slice d.A (ofO (some v)).l.length d.c, .slice d.D (ofO (some v)).m.length d.d]] W (MadeP W.heap.size (ofO (some (mkRat 1 2 * (x + u)))) (ofO (some (mkRat 1 2 * (y + v)))) W) := by
  have hk : k ≤ 216 := by omega
  have hq := frac_q 2 (by omega) (by omega)
  have K := impl_midP _ _ _ _ a b c d W (l9 (lS hx hk).1) (l9 (lS hx hk).2) (l9 (lS hy hk).1) (l9 (lS hy hk).2) (l9 (lS hu hk).1) (l9 (lS hu hk).2) (l9 (lS hv hk).1) (l9 (lS hv hk).2) h h'
  rw [vS hx hk, vS hy hk, vS hu hk, vS hv hk, hq.1, addS hx hu (by omega), addS hy hv (by omega), (both_some _ _).1, (both_some _ _).2, mulS hq.2 (hx.add hu) (by omega), mulS hq.2 (hy.add hv) (by omega), (both_some _ _).1, (both_some _ _).2] at K
  exact K
theorem scale_c {k m : Nat} {t x y : Rat} (ht : Lg k t) (hx : Lg m x) (hy : Lg m y) (h5 : k + m ≤ 216) (e a b : Ad) (W : World) (h : Rds W (rows (ofO (some t)) e)) (h' : Rds W (rows (ofO (some x)) a ++ rows (ofO (some y)) b)) :
    Calls Tryz.prog 18 #[.agg #[.bool (ofO (some t)).p, .slice e.A (ofO (some t)).l.length e.c, .slice e.D (ofO (some t)).m.length e.d], .agg #[.bool (ofO (some x)).p, .slice a.A (ofO (some x)).l.length a.c, .slice a.D (ofO (some x)).m.length a.d, .bool (ofO (some y)).p, .slice b.A (ofO (some y)).l.length b.c, .slice b.D (ofO (some y)).m.length b.d]] W (MadeP W.heap.size (ofO (some (t * x))) (ofO (some (t * y))) W) := by
  have hk : k ≤ 216 := by omega
  have hm : m ≤ 216 := by omega
  have K := impl_scaleP _ _ _ e a b W (l9 (lS ht hk).1) (l9 (lS ht hk).2) (l9 (lS hx hm).1) (l9 (lS hx hm).2) (l9 (lS hy hm).1) (l9 (lS hy hm).2) h h'
  rw [vS ht hk, vS hx hm, vS hy hm, mulS ht hx h5, mulS ht hy h5, (both_some _ _).1, (both_some _ _).2] at K
  exact K
theorem radd_c {k m : Nat} {x y : Rat} (hx : Lg k x) (hy : Lg m y) (h5 : k + m + 1 ≤ 216) (a b : Ad) (W : World) (h : Rds W (rows (ofO (some x)) a)) (h' : Rds W (rows (ofO (some y)) b)) :
    Calls Tryz.prog 21 #[.agg #[.bool (ofO (some x)).p, .slice a.A (ofO (some x)).l.length a.c, .slice a.D (ofO (some x)).m.length a.d], .agg #[.bool (ofO (some y)).p, .slice b.A (ofO (some y)).l.length b.c, .slice b.D (ofO (some y)).m.length b.d]] W (MadeQ W.heap.size (ofO (some (x + y))) W) := by
  have hk : k ≤ 216 := by omega
  have hm : m ≤ 216 := by omega
  have h1 := impl_radd (ofO (some x)).p (ofO (some y)).p (ofO (some x)).l (ofO (some x)).m (ofO (some y)).l (ofO (some y)).m a.A a.D b.A b.D _ _ _ _ a.c a.d b.c b.d W rfl rfl rfl rfl (l9 (lS hx hk).1) (l9 (lS hx hk).2) (l9 (lS hy hm).1) (l9 (lS hy hm).2) (rows_rd h).1 (rows_rd h).2 (rows_rd h').1 (rows_rd h').2
  rw [show valQ (ofO (some x)).p (ofO (some x)).l (ofO (some x)).m = some x from vS hx hk, show valQ (ofO (some y)).p (ofO (some y)).l (ofO (some y)).m = some y from vS hy hm, addS hx hy h5] at h1
  exact h1.mono fun e w' k => MadeR.toQ (x := ofO (some (x + y))) k
theorem eq_c {k : Nat} {x : Rat} (hx : Lg k x) (hk : k ≤ 216) (a b : Ad) (lo hi : Nat) (W : World) (h : Rds W (rows (ofO (some x)) a)) (h' : Owns lo hi W (rows (ofO (some x)) b)) :
    Calls Tryz.prog 20 #[.agg #[.bool (ofO (some x)).p, .slice a.A (ofO (some x)).l.length a.c, .slice a.D (ofO (some x)).m.length a.d], .agg #[.bool (ofO (some x)).p, .slice b.A (ofO (some x)).l.length b.c, .slice b.D (ofO (some x)).m.length b.d]] W (fun e w' => e = .returned (.bool true) ∧ Below W.heap.size W w') := by
  have hl := lS hx hk
  have h1 := impl_req (ofO (some x)).p (ofO (some x)).p (ofO (some x)).l (ofO (some x)).m (ofO (some x)).l (ofO (some x)).m a.A a.D b.A b.D _ _ _ _ a.c a.d b.c b.d W rfl rfl rfl rfl (Nat.le_trans hl.1 (by omega)) (Nat.le_trans hl.2 (by omega)) (Nat.le_trans hl.1 (by omega)) (Nat.le_trans hl.2 (by omega)) (own_addr h'.hd) (own_addr h'.tl.hd) (rows_rd h).1 (rows_rd h).2 (rows_rd h'.rds).1 (rows_rd h'.rds).2
  rw [decide_eq_true rfl, decide_eq_true rfl, decide_eq_true rfl] at h1
  exact h1
theorem same_c {x y : R3} (sx : Short x) (sy : Short y) (a b c d : Ad) (lo hi : Nat) (W : World) (h : Rds W (rows x a ++ rows y b)) (h' : Owns lo hi W (rows x c ++ rows y d)) :
    Calls Tryz.prog 19 #[.agg #[.bool x.p, .slice a.A x.l.length a.c, .slice a.D x.m.length a.d, .bool y.p, .slice b.A y.l.length b.c, .slice b.D y.m.length b.d], .agg #[.bool x.p, .slice c.A x.l.length c.c, .slice c.D x.m.length c.d, .bool y.p, .slice d.A y.l.length d.c, .slice d.D y.m.length d.d]] W (fun e w' => e = .returned (.bool true) ∧ Below W.heap.size W w') := by
  have K := impl_sameO _ _ _ _ a b c d W sx sy sx sy ⟨own_addr (owns_l h').hd, own_addr (owns_l h').tl.hd⟩ ⟨own_addr (owns_r h').hd, own_addr (owns_r h').tl.hd⟩ h h'.rds
  have e : ∀ z : R3, sameR z z = true := fun z => by unfold sameR; simp
  rw [e, e] at K
  exact K
theorem third_one : (3 : Rat) * mkRat 1 3 = 1 := by decide +kernel
theorem half_one : (2 : Rat) * mkRat 1 2 = 1 := by decide +kernel
theorem third_pos : 0 < mkRat 1 3 := by decide +kernel
theorem half_pos : 0 < mkRat 1 2 := by decide +kernel
theorem cent_id (a b c d e f t : Rat) (h : 3 * t = 1) : det a b c d (t * (a + c + e)) (t * (b + d + f)) = t * det a b c d e f ∧ det c d e f (t * (a + c + e)) (t * (b + d + f)) = t * det a b c d e f ∧ det e f a b (t * (a + c + e)) (t * (b + d + f)) = t * det a b c d e f := by
  unfold det
  exact ⟨by grind, by grind, by grind⟩
theorem midd_id (a b c d e f t : Rat) (h : 2 * t = 1) : det a b c d (t * (a + c)) (t * (b + d)) = 0 ∧ det c d e f (t * (a + c)) (t * (b + d)) = t * det a b c d e f ∧ det e f a b (t * (a + c)) (t * (b + d)) = t * det a b c d e f := by
  unfold det
  exact ⟨by grind, by grind, by grind⟩
theorem bary_sum (a b c d e f x y : Rat) (D : Rat) (hD : D = det a b c d e f) (h0 : D ≠ 0) (B0 B1 B2 : Rat) (h1 : B0 * D = det x y c d e f) (h2 : B1 * D = det a b x y e f) (h3 : B2 * D = det a b c d x y) :
    B0 + (B1 + B2) = 1 ∧ 0 + B0 * a + B1 * c + B2 * e = x ∧ 0 + B0 * b + B1 * d + B2 * f = y := by
  have can : ∀ s t : Rat, s * D = t * D → s = t := fun s t h => by
    have := congrArg (· * D⁻¹) h
    simp only [Rat.mul_assoc, Rat.mul_inv_cancel D h0, Rat.mul_one] at this
    exact this
  unfold det at hD h1 h2 h3
  exact ⟨can _ _ (by grind), can _ _ (by grind), can _ _ (by grind)⟩
theorem grad_sum (a c e t : Rat) : 0 + t * (c - e) + t * (e - a) + t * (a - c) = 0 := by grind
set_option maxHeartbeats 2000000 in
theorem all_triangles (p q r u : PV) (hp : DdP 3 p) (hq : DdP 3 q) (hr : DdP 3 r) (hu : DdP 3 u) (hpr : properB [p, q, r] = true) : ∃ (B0 B1 B2 TX0 TY0 TX1 TY1 TX2 TY2 SX1 SY1 SX2 SY2 GX0 GY0 GX1 GY1 GX2 GY2 AX1 AY1 AX2 AY2 E1 CX CY MX MY : R3) (GL : List PV), dat GL = [(GX0, GY0), (GX1, GY1), (GX2, GY2)] ∧
    (∀ A W, RdS W A (flat [p, q, r]) → Rds W (lrow [p, q, r]) → Rds W (prow u) → Calls Tryz.prog 13 #[.slice A 3 3, .agg #[.bool u.x.p, .slice u.a.A u.x.l.length u.a.c, .slice u.a.D u.x.m.length u.a.d, .bool u.y.p, .slice u.b.A u.y.l.length u.b.c, .slice u.b.D u.y.m.length u.b.d]] W (MadeL3 B0 B1 B2 W)) ∧
    (∀ A W, RdS W A (flat [p, q, r]) → Rds W (lrow [p, q, r]) → Calls Tryz.prog 14 #[.slice A 3 3] W (MadePS W.heap.size GL W)) ∧
    (∀ A W, RdS W A (flat [p, q, r]) → Rds W (lrow [p, q, r]) → Calls Tryz.prog 15 #[.slice A 3 3] W (fun e w' => e = .returned (.bool true) ∧ Below W.heap.size W w')) ∧
    (∀ W, Calls Tryz.prog 16 #[.int .i64 0, .int .i64 0] W (MadeP W.heap.size (rfi 0) (rfi 0) W)) ∧
    (∀ e W, Rds W (rows B0 e) → Rds W (prow p) → Calls Tryz.prog 18 #[.agg #[.bool B0.p, .slice e.A B0.l.length e.c, .slice e.D B0.m.length e.d], .agg #[.bool p.x.p, .slice p.a.A p.x.l.length p.a.c, .slice p.a.D p.x.m.length p.a.d, .bool p.y.p, .slice p.b.A p.y.l.length p.b.c, .slice p.b.D p.y.m.length p.b.d]] W (MadeP W.heap.size TX0 TY0 W)) ∧
    (∀ e W, Rds W (rows B1 e) → Rds W (prow q) → Calls Tryz.prog 18 #[.agg #[.bool B1.p, .slice e.A B1.l.length e.c, .slice e.D B1.m.length e.d], .agg #[.bool q.x.p, .slice q.a.A q.x.l.length q.a.c, .slice q.a.D q.x.m.length q.a.d, .bool q.y.p, .slice q.b.A q.y.l.length q.b.c, .slice q.b.D q.y.m.length q.b.d]] W (MadeP W.heap.size TX1 TY1 W)) ∧
    (∀ e W, Rds W (rows B2 e) → Rds W (prow r) → Calls Tryz.prog 18 #[.agg #[.bool B2.p, .slice e.A B2.l.length e.c, .slice e.D B2.m.length e.d], .agg #[.bool r.x.p, .slice r.a.A r.x.l.length r.a.c, .slice r.a.D r.x.m.length r.a.d, .bool r.y.p, .slice r.b.A r.y.l.length r.b.c, .slice r.b.D r.y.m.length r.b.d]] W (MadeP W.heap.size TX2 TY2 W)) ∧
    (∀ a b c d W, Rds W (rows (rfi 0) a ++ rows (rfi 0) b) → Rds W (rows TX0 c ++ rows TY0 d) → Calls Tryz.prog 17 #[.agg #[.bool (rfi 0).p, .slice a.A (rfi 0).l.length a.c, .slice a.D (rfi 0).m.length a.d, .bool (rfi 0).p, .slice b.A (rfi 0).l.length b.c, .slice b.D (rfi 0).m.length b.d], .agg #[.bool TX0.p, .slice c.A TX0.l.length c.c, .slice c.D TX0.m.length c.d, .bool TY0.p, .slice d.A TY0.l.length d.c, .slice d.D TY0.m.length d.d]] W (MadeP W.heap.size SX1 SY1 W)) ∧
    (∀ a b c d W, Rds W (rows SX1 a ++ rows SY1 b) → Rds W (rows TX1 c ++ rows TY1 d) → Calls Tryz.prog 17 #[.agg #[.bool SX1.p, .slice a.A SX1.l.length a.c, .slice a.D SX1.m.length a.d, .bool SY1.p, .slice b.A SY1.l.length b.c, .slice b.D SY1.m.length b.d], .agg #[.bool TX1.p, .slice c.A TX1.l.length c.c, .slice c.D TX1.m.length c.d, .bool TY1.p, .slice d.A TY1.l.length d.c, .slice d.D TY1.m.length d.d]] W (MadeP W.heap.size SX2 SY2 W)) ∧
    (∀ a b c d W, Rds W (rows SX2 a ++ rows SY2 b) → Rds W (rows TX2 c ++ rows TY2 d) → Calls Tryz.prog 17 #[.agg #[.bool SX2.p, .slice a.A SX2.l.length a.c, .slice a.D SX2.m.length a.d, .bool SY2.p, .slice b.A SY2.l.length b.c, .slice b.D SY2.m.length b.d], .agg #[.bool TX2.p, .slice c.A TX2.l.length c.c, .slice c.D TX2.m.length c.d, .bool TY2.p, .slice d.A TY2.l.length d.c, .slice d.D TY2.m.length d.d]] W (MadeP W.heap.size u.x u.y W)) ∧
    (∀ a b c d W, Rds W (rows (rfi 0) a ++ rows (rfi 0) b) → Rds W (rows GX0 c ++ rows GY0 d) → Calls Tryz.prog 17 #[.agg #[.bool (rfi 0).p, .slice a.A (rfi 0).l.length a.c, .slice a.D (rfi 0).m.length a.d, .bool (rfi 0).p, .slice b.A (rfi 0).l.length b.c, .slice b.D (rfi 0).m.length b.d], .agg #[.bool GX0.p, .slice c.A GX0.l.length c.c, .slice c.D GX0.m.length c.d, .bool GY0.p, .slice d.A GY0.l.length d.c, .slice d.D GY0.m.length d.d]] W (MadeP W.heap.size AX1 AY1 W)) ∧
    (∀ a b c d W, Rds W (rows AX1 a ++ rows AY1 b) → Rds W (rows GX1 c ++ rows GY1 d) → Calls Tryz.prog 17 #[.agg #[.bool AX1.p, .slice a.A AX1.l.length a.c, .slice a.D AX1.m.length a.d, .bool AY1.p, .slice b.A AY1.l.length b.c, .slice b.D AY1.m.length b.d], .agg #[.bool GX1.p, .slice c.A GX1.l.length c.c, .slice c.D GX1.m.length c.d, .bool GY1.p, .slice d.A GY1.l.length d.c, .slice d.D GY1.m.length d.d]] W (MadeP W.heap.size AX2 AY2 W)) ∧
    (∀ a b c d W, Rds W (rows AX2 a ++ rows AY2 b) → Rds W (rows GX2 c ++ rows GY2 d) → Calls Tryz.prog 17 #[.agg #[.bool AX2.p, .slice a.A AX2.l.length a.c, .slice a.D AX2.m.length a.d, .bool AY2.p, .slice b.A AY2.l.length b.c, .slice b.D AY2.m.length b.d], .agg #[.bool GX2.p, .slice c.A GX2.l.length c.c, .slice c.D GX2.m.length c.d, .bool GY2.p, .slice d.A GY2.l.length d.c, .slice d.D GY2.m.length d.d]] W (MadeP W.heap.size (rfi 0) (rfi 0) W)) ∧
    (∀ a b c d lo hi W, Rds W (rows u.x a ++ rows u.y b) → Owns lo hi W (rows u.x c ++ rows u.y d) → Calls Tryz.prog 19 #[.agg #[.bool u.x.p, .slice a.A u.x.l.length a.c, .slice a.D u.x.m.length a.d, .bool u.y.p, .slice b.A u.y.l.length b.c, .slice b.D u.y.m.length b.d], .agg #[.bool u.x.p, .slice c.A u.x.l.length c.c, .slice c.D u.x.m.length c.d, .bool u.y.p, .slice d.A u.y.l.length d.c, .slice d.D u.y.m.length d.d]] W (fun e w' => e = .returned (.bool true) ∧ Below W.heap.size W w')) ∧
    (∀ a b c d lo hi W, Rds W (rows (rfi 0) a ++ rows (rfi 0) b) → Owns lo hi W (rows (rfi 0) c ++ rows (rfi 0) d) → Calls Tryz.prog 19 #[.agg #[.bool (rfi 0).p, .slice a.A (rfi 0).l.length a.c, .slice a.D (rfi 0).m.length a.d, .bool (rfi 0).p, .slice b.A (rfi 0).l.length b.c, .slice b.D (rfi 0).m.length b.d], .agg #[.bool (rfi 0).p, .slice c.A (rfi 0).l.length c.c, .slice c.D (rfi 0).m.length c.d, .bool (rfi 0).p, .slice d.A (rfi 0).l.length d.c, .slice d.D (rfi 0).m.length d.d]] W (fun e w' => e = .returned (.bool true) ∧ Below W.heap.size W w')) ∧
    (∀ a b W, Rds W (rows B1 a) → Rds W (rows B2 b) → Calls Tryz.prog 21 #[.agg #[.bool B1.p, .slice a.A B1.l.length a.c, .slice a.D B1.m.length a.d], .agg #[.bool B2.p, .slice b.A B2.l.length b.c, .slice b.D B2.m.length b.d]] W (MadeQ W.heap.size E1 W)) ∧
    (∀ a b W, Rds W (rows B0 a) → Rds W (rows E1 b) → Calls Tryz.prog 21 #[.agg #[.bool B0.p, .slice a.A B0.l.length a.c, .slice a.D B0.m.length a.d], .agg #[.bool E1.p, .slice b.A E1.l.length b.c, .slice b.D E1.m.length b.d]] W (MadeQ W.heap.size (rfi 1) W)) ∧
    (∀ a b lo hi W, Rds W (rows (rfi 1) a) → Owns lo hi W (rows (rfi 1) b) → Calls Tryz.prog 20 #[.agg #[.bool (rfi 1).p, .slice a.A (rfi 1).l.length a.c, .slice a.D (rfi 1).m.length a.d], .agg #[.bool (rfi 1).p, .slice b.A (rfi 1).l.length b.c, .slice b.D (rfi 1).m.length b.d]] W (fun e w' => e = .returned (.bool true) ∧ Below W.heap.size W w')) ∧
    (∀ A W, RdS W A (flat [p, q, r]) → Rds W (lrow [p, q, r]) → Calls Tryz.prog 24 #[.slice A 3 3] W (MadeP W.heap.size CX CY W)) ∧
    (∀ A a b W, RdS W A (flat [p, q, r]) → Rds W (lrow [p, q, r]) → Rds W (rows CX a ++ rows CY b) → Calls Tryz.prog 23 #[.slice A 3 3, .agg #[.bool CX.p, .slice a.A CX.l.length a.c, .slice a.D CX.m.length a.d, .bool CY.p, .slice b.A CY.l.length b.c, .slice b.D CY.m.length b.d]] W (fun e w' => e = .returned (.int .i64 1) ∧ Below W.heap.size W w')) ∧
    (∀ W, Rds W (prow p) → Rds W (prow q) → Calls Tryz.prog 25 #[.agg #[.bool p.x.p, .slice p.a.A p.x.l.length p.a.c, .slice p.a.D p.x.m.length p.a.d, .bool p.y.p, .slice p.b.A p.y.l.length p.b.c, .slice p.b.D p.y.m.length p.b.d], .agg #[.bool q.x.p, .slice q.a.A q.x.l.length q.a.c, .slice q.a.D q.x.m.length q.a.d, .bool q.y.p, .slice q.b.A q.y.l.length q.b.c, .slice q.b.D q.y.m.length q.b.d]] W (MadeP W.heap.size MX MY W)) ∧
    (∀ A a b W, RdS W A (flat [p, q, r]) → Rds W (lrow [p, q, r]) → Rds W (rows MX a ++ rows MY b) → Calls Tryz.prog 23 #[.slice A 3 3, .agg #[.bool MX.p, .slice a.A MX.l.length a.c, .slice a.D MX.m.length a.d, .bool MY.p, .slice b.A MY.l.length b.c, .slice b.D MY.m.length b.d]] W (fun e w' => e = .returned (.int .i64 0) ∧ Below W.heap.size W w')) ∧
    (∀ A W, RdS W A (flat [p, q, r]) → Rds W (lrow [p, q, r]) → Rds W (prow r) → Calls Tryz.prog 23 #[.slice A 3 3, .agg #[.bool r.x.p, .slice r.a.A r.x.l.length r.a.c, .slice r.a.D r.x.m.length r.a.d, .bool r.y.p, .slice r.b.A r.y.l.length r.b.c, .slice r.b.D r.y.m.length r.b.d]] W (fun e w' => e = .returned (.int .i64 0) ∧ Below W.heap.size W w')) := by
  obtain ⟨a, b, hA⟩ := hp.at (by omega)
  obtain ⟨c, d, hB⟩ := hq.at (by omega)
  obtain ⟨e, f, hC⟩ := hr.at (by omega)
  obtain ⟨x, y, hU⟩ := hu.at (by omega)
  have lp := hp.len (by omega)
  have lq := hq.len (by omega)
  have lr := hr.len (by omega)
  have lu := hu.len (by omega)
  have hpr0 := hpr
  have hD : 0 < det a b c d e f := by
    have h := proper_at hA hB hC (by omega)
    rw [hpr] at h
    exact of_decide_eq_true h.symm
  obtain ⟨t1, t2, t3⟩ := tri_yes hpr
  have nz : det a b c d e f ≠ 0 := fun h => by rw [h] at hD; exact absurd hD (by decide)
  have nn : ¬ (det a b c d e f).num = 0 := by have := num_pos.2 hD; omega
  obtain ⟨D, eD⟩ : ∃ D, D = det a b c d e f := ⟨_, rfl⟩
  have lD : Lg 29 D := by rw [eD]; exact (det_lg hA.2.2.1 hA.2.2.2 hB.2.2.1 hB.2.2.2 hC.2.2.1 hC.2.2.2).more (by omega)
  have aD : aV p q r = some D := by rw [eD]; exact aV_at hA hB hC (by omega)
  rw [← eD] at hD nz nn
  have quo : ∀ t : Rat, Lg 29 t → binQ quoQ (some t) (some D) = some (t / D) ∧ Lg 58 (t / D) ∧ t / D * D = t := fun t ht => by
    have hl : Lg 58 (t / D) := (ht.div lD).more (by omega)
    refine ⟨?_, hl, Rat.div_mul_cancel nz⟩
    show quoQ t D = _
    unfold quoQ
    rw [if_neg nn]
    exact hl.cut (by omega)
  have dl : ∀ {p1 q1 r1 : PV} {a1 b1 c1 d1 e1 f1 : Rat}, AtP 3 p1 a1 b1 → AtP 3 q1 c1 d1 → AtP 3 r1 e1 f1 → aV p1 q1 r1 = some (det a1 b1 c1 d1 e1 f1) ∧ Lg 29 (det a1 b1 c1 d1 e1 f1) := fun h1 h2 h3 => ⟨aV_at h1 h2 h3 (by omega), (det_lg h1.2.2.1 h1.2.2.2 h2.2.2.1 h2.2.2.2 h3.2.2.1 h3.2.2.2).more (by omega)⟩
  have v0 := dl hU hB hC
  have v1 := dl hA hU hC
  have v2 := dl hA hB hU
  have k0 := quo _ v0.2
  have k1 := quo _ v1.2
  have k2 := quo _ v2.2
  have E0 : binQ quoQ (aV u q r) (aV p q r) = some (det x y c d e f / D) := by rw [v0.1, aD]; exact k0.1
  have E1 : binQ quoQ (aV p u r) (aV p q r) = some (det a b x y e f / D) := by rw [v1.1, aD]; exact k1.1
  have E2 : binQ quoQ (aV p q u) (aV p q r) = some (det a b c d x y / D) := by rw [v2.1, aD]; exact k2.1
  have BS := bary_sum a b c d e f x y D eD nz _ _ _ k0.2.2 k1.2.2 k2.2.2
  obtain ⟨_, b0, _⟩ := k0
  obtain ⟨_, b1, _⟩ := k1
  obtain ⟨_, b2, _⟩ := k2
  clear quo v0 v1 v2
  generalize det x y c d e f / D = B0 at E0 BS b0
  generalize det a b x y e f / D = B1 at E1 BS b1
  generalize det a b c d x y / D = B2 at E2 BS b2
  have sx0 : Lg 61 (B0 * a) := (b0.mul hA.2.2.1).more (by omega)
  have sy0 : Lg 61 (B0 * b) := (b0.mul hA.2.2.2).more (by omega)
  have sx1 : Lg 61 (B1 * c) := (b1.mul hB.2.2.1).more (by omega)
  have sy1 : Lg 61 (B1 * d) := (b1.mul hB.2.2.2).more (by omega)
  have sx2 : Lg 61 (B2 * e) := (b2.mul hC.2.2.1).more (by omega)
  have sy2 : Lg 61 (B2 * f) := (b2.mul hC.2.2.2).more (by omega)
  have z0 : Lg 1 (0 : Rat) := ⟨by decide, by decide⟩
  have o1 : Lg 1 (1 : Rat) := ⟨by decide, by decide⟩
  have px1 : Lg 63 (0 + B0 * a) := (z0.add sx0).more (by omega)
  have py1 : Lg 63 (0 + B0 * b) := (z0.add sy0).more (by omega)
  have px2 : Lg 125 (0 + B0 * a + B1 * c) := (px1.add sx1).more (by omega)
  have py2 : Lg 125 (0 + B0 * b + B1 * d) := (py1.add sy1).more (by omega)
  have r0 : rfi 0 = ofO (some (0 : Rat)) := rfl
  have r1 : rfi 1 = ofO (some (1 : Rat)) := rfl
  have ux := valx_data hU.1
  have uy := valx_data hU.2.1
  have ax := valx_data hA.1
  have ay := valx_data hA.2.1
  have bx := valx_data hB.1
  have by' := valx_data hB.2.1
  have cx := valx_data hC.1
  have cy := valx_data hC.2.1
  have lI : Lg 29 D⁻¹ := lD.inv
  have eI : invO (aV p q r) = some D⁻¹ := by
    rw [aD]
    show invQ D = _
    unfold invQ
    rw [if_neg nn]
  have gr : ∀ {j k : PV} {jx jy kx ky : Rat}, AtP 3 j jx jy → AtP 3 k kx ky → tX j k (some D⁻¹) = some (D⁻¹ * (jy - ky)) ∧ tY j k (some D⁻¹) = some (D⁻¹ * (kx - jx)) ∧ Lg 36 (D⁻¹ * (jy - ky)) ∧ Lg 36 (D⁻¹ * (kx - jx)) := fun {j k jx jy kx ky} hj hk => by
    have m1 : Lg 36 (D⁻¹ * (jy - ky)) := (lI.mul (hj.2.2.2.sub hk.2.2.2)).more (by omega)
    have m2 : Lg 36 (D⁻¹ * (kx - jx)) := (lI.mul (hk.2.2.1.sub hj.2.2.1)).more (by omega)
    refine ⟨?_, ?_, m1, m2⟩
    · unfold tX nX nY
      rw [hj.1, hj.2.1, hk.1, hk.2.1, subS hj.2.2.2 hk.2.2.2 (by omega), subS hk.2.2.1 hj.2.2.1 (by omega), (both_some _ _).1, (both_some _ _).2, mulS lI (hj.2.2.2.sub hk.2.2.2) (by omega), mulS lI (hk.2.2.1.sub hj.2.2.1) (by omega), (both_some _ _).1]
    · unfold tY nX nY
      rw [hj.1, hj.2.1, hk.1, hk.2.1, subS hj.2.2.2 hk.2.2.2 (by omega), subS hk.2.2.1 hj.2.2.1 (by omega), (both_some _ _).1, (both_some _ _).2, mulS lI (hj.2.2.2.sub hk.2.2.2) (by omega), mulS lI (hk.2.2.1.sub hj.2.2.1) (by omega), (both_some _ _).2]
  obtain ⟨g1, g2, g3, g4⟩ := gr hB hC
  obtain ⟨g5, g6, g7, g8⟩ := gr hC hA
  obtain ⟨g9, g10, g11, g12⟩ := gr hA hB
  clear gr
  have GX := grad_sum b d f D⁻¹
  have GY := grad_sum a c e D⁻¹
  generalize D⁻¹ = T at eI lI g1 g2 g3 g4 g5 g6 g7 g8 g9 g10 g11 g12 GX GY
  have qx1 : Lg 38 (0 + T * (d - f)) := (z0.add g3).more (by omega)
  have qy1 : Lg 38 (0 + T * (e - c)) := (z0.add g4).more (by omega)
  have qx2 : Lg 75 (0 + T * (d - f) + T * (f - b)) := (qx1.add g7).more (by omega)
  have qy2 : Lg 75 (0 + T * (e - c) + T * (a - e)) := (qy1.add g8).more (by omega)
  have fx : 0 + T * (d - f) + T * (f - b) + T * (b - d) = 0 := by grind
  have fy : 0 + T * (e - c) + T * (a - e) + T * (c - a) = 0 := by grind
  have h3 := frac_q 3 (by omega) (by omega)
  have cxv : cenX p q r = some (mkRat 1 3 * (a + c + e)) ∧ cenY p q r = some (mkRat 1 3 * (b + d + f)) := by
    unfold cenX cenY s2X s2Y s1X s1Y
    rw [hA.1, hA.2.1, hB.1, hB.2.1, hC.1, hC.2.1, addS hA.2.2.1 hB.2.2.1 (by omega), addS hA.2.2.2 hB.2.2.2 (by omega), (both_some _ _).1, (both_some _ _).2, addS (hA.2.2.1.add hB.2.2.1) hC.2.2.1 (by omega), addS (hA.2.2.2.add hB.2.2.2) hC.2.2.2 (by omega), (both_some _ _).1, (both_some _ _).2, h3.1,
      mulS h3.2 ((hA.2.2.1.add hB.2.2.1).add hC.2.2.1) (by omega), mulS h3.2 ((hA.2.2.2.add hB.2.2.2).add hC.2.2.2) (by omega), (both_some _ _).1, (both_some _ _).2]
    exact ⟨rfl, rfl⟩
  have lcx : Lg 12 (mkRat 1 3 * (a + c + e)) := (h3.2.mul ((hA.2.2.1.add hB.2.2.1).add hC.2.2.1)).more (by omega)
  have lcy : Lg 12 (mkRat 1 3 * (b + d + f)) := (h3.2.mul ((hA.2.2.2.add hB.2.2.2).add hC.2.2.2)).more (by omega)
  have h2q := frac_q 2 (by omega) (by omega)
  have lmx : Lg 12 (mkRat 1 2 * (a + c)) := (h2q.2.mul (hA.2.2.1.add hB.2.2.1)).more (by omega)
  have lmy : Lg 12 (mkRat 1 2 * (b + d)) := (h2q.2.mul (hA.2.2.2.add hB.2.2.2)).more (by omega)
  have ci := cent_id a b c d e f (mkRat 1 3) third_one
  have mi := midd_id a b c d e f (mkRat 1 2) half_one
  rw [← eD] at ci mi
  have pc : 0 < mkRat 1 3 * D := Rat.mul_pos third_pos hD
  have pm : 0 < mkRat 1 2 * D := Rat.mul_pos half_pos hD
  have A12 := hA.more (show 3 ≤ 12 by omega)
  have B12 := hB.more (show 3 ≤ 12 by omega)
  have C12 := hC.more (show 3 ≤ 12 by omega)
  have n3 : ([p, q, r] : List PV).length ≤ 9223372036854775807 := by simp
  have lL : ∀ v, v ∈ [p, q, r] → LenP v := fun v hv => by
    simp only [List.mem_cons, List.not_mem_nil, or_false] at hv
    rcases hv with rfl | rfl | rfl <;> assumption
  have su : Short u.x ∧ Short u.y := by
    have k1 := hu.1.len (show 3 ≤ 216 by omega)
    have k2 := hu.2.len (show 3 ≤ 216 by omega)
    exact ⟨⟨l20 k1.1, l20 k1.2⟩, l20 k2.1, l20 k2.2⟩
  have sz : Short (rfi 0) := by rw [r0]; exact ⟨l20 (lS z0 (by omega)).1, l20 (lS z0 (by omega)).2⟩
  have nu : NiceP u := niceP_ok (by unfold okP; rw [okx_eq, okx_eq, hU.1, hU.2.1]; rfl)
  have ku : okP u = true := by unfold okP; rw [okx_eq, okx_eq, hU.1, hU.2.1]; rfl
  have kr : okP r = true := by unfold okP; rw [okx_eq, okx_eq, hC.1, hC.2.1]; rfl
  have pt : ∀ {X Y : Rat} (c1 d1 : Ad), Lg 12 X → Lg 12 Y → AtP 12 ⟨ofO (some X), ofO (some Y), c1, d1⟩ X Y ∧ LenP ⟨ofO (some X), ofO (some Y), c1, d1⟩ ∧ NiceP ⟨ofO (some X), ofO (some Y), c1, d1⟩ ∧ okP ⟨ofO (some X), ofO (some Y), c1, d1⟩ = true := fun {X Y} c1 d1 hX hY => by
    have k1 := lS hX (by omega)
    have k2 := lS hY (by omega)
    have ok : okP ⟨ofO (some X), ofO (some Y), c1, d1⟩ = true := by unfold okP; rw [okL hX (by omega), okL hY (by omega)]; rfl
    exact ⟨at_mk hX hY (by omega) c1 d1, ⟨⟨l9 k1.1, l9 k1.2⟩, l9 k2.1, l9 k2.2⟩, niceP_ok ok, ok⟩
  have bsum2 : Lg 117 (B1 + B2) := (b1.add b2).more (by omega)
  refine ⟨ofO (some B0), ofO (some B1), ofO (some B2), ofO (some (B0 * a)), ofO (some (B0 * b)), ofO (some (B1 * c)), ofO (some (B1 * d)), ofO (some (B2 * e)), ofO (some (B2 * f)), ofO (some (0 + B0 * a)), ofO (some (0 + B0 * b)), ofO (some (0 + B0 * a + B1 * c)), ofO (some (0 + B0 * b + B1 * d)), ofO (some (T * (d - f))), ofO (some (T * (e - c))), ofO (some (T * (f - b))), ofO (some (T * (a - e))), ofO (some (T * (b - d))), ofO (some (T * (c - a))), ofO (some (0 + T * (d - f))), ofO (some (0 + T * (e - c))), ofO (some (0 + T * (d - f) + T * (f - b))), ofO (some (0 + T * (e - c) + T * (a - e))), ofO (some (B1 + B2)), ofO (some (mkRat 1 3 * (a + c + e))), ofO (some (mkRat 1 3 * (b + d + f))), ofO (some (mkRat 1 2 * (a + c))), ofO (some (mkRat 1 2 * (b + d))), gradL [p, q, r], ?_, ?_, ?_, ?_, ?_, ?_, ?_, ?_, ?_, ?_, ?_, ?_, ?_, ?_, ?_, ?_, ?_, ?_, ?_, ?_, ?_, ?_, ?_, ?_⟩
  · unfold gradL gradV
    rw [t1, t2, t3, aT_yes hpr, eI, g1, g2, g5, g6, g9, g10]
    unfold gl3
    rw [if_pos ⟨m_pos _, m_pos _, m_pos _⟩]
    rfl
  · intro A W h h' k
    exact impl_bary p q r u A 3 W B0 B1 B2 hpr lp lq lr lu nu ku E0 E1 E2 h h' k
  · intro A W h h'
    exact impl_gradients [p, q, r] A 3 W n3 lL h h'
  · intro A W h h'
    have K := impl_proper [p, q, r] A 3 W n3 lL h h'
    rw [hpr] at K; exact K
  · intro W
    exact impl_pointAt 0 0 W (by decide) (by decide)
  · intro e' W h h'
    unfold prow at h'
    rw [ax, ay] at h' ⊢
    exact scale_c b0 hA.2.2.1 hA.2.2.2 (by omega) e' p.a p.b W h h'
  · intro e' W h h'
    unfold prow at h'
    rw [bx, by'] at h' ⊢
    exact scale_c b1 hB.2.2.1 hB.2.2.2 (by omega) e' q.a q.b W h h'
  · intro e' W h h'
    unfold prow at h'
    rw [cx, cy] at h' ⊢
    exact scale_c b2 hC.2.2.1 hC.2.2.2 (by omega) e' r.a r.b W h h'
  · intro a' b' c' d' W h h'
    rw [r0] at h ⊢
    exact add_c z0 z0 sx0 sy0 (by omega) a' b' c' d' W h h'
  · intro a' b' c' d' W h h'
    exact add_c px1 py1 sx1 sy1 (by omega) a' b' c' d' W h h'
  · intro a' b' c' d' W h h'
    have K := add_c px2 py2 sx2 sy2 (by omega) a' b' c' d' W h h'
    rw [BS.2.1, BS.2.2] at K
    rw [ux, uy]; exact K
  · intro a' b' c' d' W h h'
    rw [r0] at h ⊢
    exact add_c z0 z0 g3 g4 (by omega) a' b' c' d' W h h'
  · intro a' b' c' d' W h h'
    exact add_c qx1 qy1 g7 g8 (by omega) a' b' c' d' W h h'
  · intro a' b' c' d' W h h'
    have K := add_c qx2 qy2 g11 g12 (by omega) a' b' c' d' W h h'
    rw [fx, fy] at K
    rw [r0]; exact K
  · intro a' b' c' d' lo hi W h h'
    exact same_c su.1 su.2 a' b' c' d' lo hi W h h'
  · intro a' b' c' d' lo hi W h h'
    exact same_c sz sz a' b' c' d' lo hi W h h'
  · intro a' b' W h h'
    exact radd_c b1 b2 (by omega) a' b' W h h'
  · intro a' b' W h h'
    have K := radd_c b0 bsum2 (by omega) a' b' W h h'
    rw [BS.1] at K
    rw [r1]; exact K
  · intro a' b' lo hi W h h'
    rw [r1] at h h' ⊢
    exact eq_c o1 (by omega) a' b' lo hi W h h'
  · intro A W h h'
    have K := impl_cent p q r A 3 W hpr lp lq lr h h'
    rw [cxv.1, cxv.2] at K; exact K
  · intro A a' b' W h h' k
    obtain ⟨m1, m2, m3, m4⟩ := pt a' b' lcx lcy
    have K := impl_side p q r A 3 W hpr lp lq lr h h' ⟨ofO (some (mkRat 1 3 * (a + c + e))), ofO (some (mkRat 1 3 * (b + d + f))), a', b'⟩ m2 m3 m4 _ _ _ (aV_at A12 B12 m1 (by omega)) (aV_at B12 C12 m1 (by omega)) (aV_at C12 A12 m1 (by omega)) k
    rw [ci.1, ci.2.1, ci.2.2, sgn_yes pc] at K; exact K
  · intro W h h'
    unfold prow at h h'
    rw [ax, ay] at h ⊢
    rw [bx, by'] at h' ⊢
    exact mid_c hA.2.2.1 hA.2.2.2 hB.2.2.1 hB.2.2.2 (by omega) p.a p.b q.a q.b W h h'
  · intro A a' b' W h h' k
    obtain ⟨m1, m2, m3, m4⟩ := pt a' b' lmx lmy
    have K := impl_side p q r A 3 W hpr lp lq lr h h' ⟨ofO (some (mkRat 1 2 * (a + c))), ofO (some (mkRat 1 2 * (b + d))), a', b'⟩ m2 m3 m4 _ _ _ (aV_at A12 B12 m1 (by omega)) (aV_at B12 C12 m1 (by omega)) (aV_at C12 A12 m1 (by omega)) k
    rw [mi.1, mi.2.1, mi.2.2, sgn_yes pm, sgn_zero] at K; exact K
  · intro A W h h' k
    have K := impl_side p q r A 3 W hpr lp lq lr h h' r lr (niceP_ok kr) kr _ _ _ (aV_at hA hB hC (by omega)) (aV_at hB hC hC (by omega)) (aV_at hC hA hC (by omega)) k
    have y1 : det c d e f e f = 0 := by unfold det; grind
    have y2 : det e f a b e f = 0 := by unfold det; grind
    rw [y1, y2, ← eD, sgn_yes hD, sgn_zero] at K; exact K
end Go.Proofs.YtppdholccpgcpaaGreat
