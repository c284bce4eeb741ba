/-
  What the law of shapes asks of the program's functions, between opaque parts.
-/
import Derived.Test.YtaohiacpdljacaaGreatWg
import Derived.Test.YtaohiacpdljacaaGreatShM
import Derived.Test.YtaohiacpdljacaaGreatMkTri
import Derived.Test.YtaohiacpdljacaaGreatPkI
namespace Go.Proofs.YtaohiacpdljacaaGreat
open Go.ChangeShapes Go.WideShapes Go.ChangeAt Go.RowKit
set_option linter.unusedVariables false
set_option linter.unusedSimpArgs false
set_option maxRecDepth 4000
theorem own_addr {B : Nat} {W : World} {A : Option Addr} {l : List Int} (h : OwnS B W A (vi l)) : l.length = 0 ∨ ∃ g, A = some ⟨g, 0, none⟩ := by
  rcases h with h | ⟨g, ha, _⟩
  · left; rw [← vi_length l, h]; rfl
  · exact .inr ⟨g, ha⟩
theorem sign_dd {k : Nat} {x : R3} {v : Int} (h : Dd k x) (hk : k ≤ 216) (hv : sgnO (valx x) = v) (a : Ad) (W : World) (hr : Rds W (rows x a)) :
    Calls Tryz.prog 10 #[.agg (g3 x.p a.A x.l.length a.c a.D x.m.length a.d)] W (fun e w' => e = .returned (.int .i64 v) ∧ Below W.heap.size W w') := by
  have hl := h.len hk
  have h1 := impl_rsign x.p x.l x.m a.A a.D _ _ a.c a.d W rfl rfl (by omega) (by omega) (rows_rd hr).1 (rows_rd hr).2
  rw [← hv]; exact h1
theorem cmp_dd {k : Nat} {x y : R3} {v : Int} (h : Dd k x) (h' : Dd k y) (hk : k ≤ 216) (hv : cmpO (valx x) (valx y) = v) (a b : Ad) (W : World) (hr : Rds W (rows x a)) (hr' : Rds W (rows y b)) :
    Calls Tryz.prog 11 #[.agg (g3 x.p a.A x.l.length a.c a.D x.m.length a.d), .agg (g3 y.p b.A y.l.length b.c b.D y.m.length b.d)] W (fun e w' => e = .returned (.int .i64 v) ∧ Below W.heap.size W w') := by
  have hl := h.len hk
  have hl' := h'.len hk
  have h1 := impl_rcmp x.p y.p x.l x.m y.l y.m a.A a.D b.A b.D _ _ _ _ a.c a.d b.c b.d W rfl rfl rfl rfl (by omega) (by omega) (by omega) (by omega) (rows_rd hr).1 (rows_rd hr).2 (rows_rd hr').1 (rows_rd hr').2
  rw [← hv]; exact h1
theorem eq_dd {k : Nat} {x : R3} (h : Dd k x) (hk : k ≤ 216) (a b : Ad) (lo hi : Nat) (W : World) (hr : Rds W (rows x a)) (hr' : Owns lo hi W (rows x b)) :
    Calls Tryz.prog 14 #[.agg (g3 x.p a.A x.l.length a.c a.D x.m.length a.d), .agg (g3 x.p b.A x.l.length b.c b.D x.m.length b.d)] W (fun e w' => e = .returned (.bool true) ∧ Below W.heap.size W w') := by
  have hl := h.len hk
  have h1 := impl_req x.p x.p x.l x.m x.l x.m a.A a.D b.A b.D _ _ _ _ a.c a.d b.c b.d W rfl rfl rfl rfl (by omega) (by omega) (by omega) (by omega) (own_addr hr'.hd) (own_addr hr'.tl.hd) (rows_rd hr).1 (rows_rd hr).2 (rows_rd hr'.rds).1 (rows_rd hr'.rds).2
  rw [decide_eq_true rfl, decide_eq_true rfl, decide_eq_true rfl] at h1
  exact h1
theorem len3 {p q r : PV} (h1 : LenP p) (h2 : LenP q) (h3 : LenP r) : ∀ x, x ∈ [p, q, r] → LenP x := fun x hx => by
  simp only [List.mem_cons, List.not_mem_nil, or_false] at hx
  rcases hx with rfl | rfl | rfl <;> assumption
theorem dd_fit {r : Rat} (f : Fit r) : Dd 216 (ofO (some r)) := ⟨r, rfl, by
  obtain ⟨h1, h2⟩ := f
  rw [ln_le_iff, pw24_ten] at h1 h2
  exact ⟨Int.ofNat_lt.1 h1, Int.ofNat_lt.1 h2⟩⟩
set_option maxHeartbeats 1000000 in
theorem all_shapes (p q r : PV) (hp : DdP 3 p) (hq : DdP 3 q) (hr : DdP 3 r) (hpr : properB [p, q, r] = true) : ∃ U V FX FY S H : R3,
    (∀ W, Rds W (prow p) → Rds W (prow q) → Calls Tryz.prog 8 #[.agg #[.bool p.x.p, .slice p.a.A p.x.l.length p.a.c, .slice p.a.D p.x.m.length p.a.d, .bool p.y.p, .slice p.b.A p.y.l.length p.b.c, .slice p.b.D p.y.m.length p.b.d], .agg #[.bool q.x.p, .slice q.a.A q.x.l.length q.a.c, .slice q.a.D q.x.m.length q.a.d, .bool q.y.p, .slice q.b.A q.y.l.length q.b.c, .slice q.b.D q.y.m.length q.b.d]] W (MadeP W.heap.size U V W)) ∧
    (∀ a b W, Rds W (rows U a ++ rows V b) → Rds W (prow r) → Calls Tryz.prog 7 #[.agg #[.bool U.p, .slice a.A U.l.length a.c, .slice a.D U.m.length a.d, .bool V.p, .slice b.A V.l.length b.c, .slice b.D V.m.length b.d], .agg #[.bool r.x.p, .slice r.a.A r.x.l.length r.a.c, .slice r.a.D r.x.m.length r.a.d, .bool r.y.p, .slice r.b.A r.y.l.length r.b.c, .slice r.b.D r.y.m.length r.b.d]] W (MadeP W.heap.size FX FY W)) ∧
    (∀ A W, RdS W A (flat [p, q, r]) → Rds W (lrow [p, q, r]) → Calls Tryz.prog 9 #[.slice A 3 3] W (MadeQ W.heap.size S W)) ∧
    (∀ a W, Rds W (rows S a) → Calls Tryz.prog 10 #[.agg (g3 S.p a.A S.l.length a.c a.D S.m.length a.d)] W (fun e w' => e = .returned (.int .i64 1) ∧ Below W.heap.size W w')) ∧
    (∀ a b W, Rds W (rows S a) → Rds W (rows (rfi 1) b) → Calls Tryz.prog 11 #[.agg (g3 S.p a.A S.l.length a.c a.D S.m.length a.d), .agg #[.bool (rfi 1).p, .slice b.A (rfi 1).l.length b.c, .slice b.D (rfi 1).m.length b.d]] W (fun e w' => e = .returned (.int .i64 (-1)) ∧ Below W.heap.size W w')) ∧
    (∀ A W, RdS W A (flat [p, q, r]) → Rds W (lrow [p, q, r]) → Calls Tryz.prog 13 #[.slice A 3 3, .slice A 3 3] W (fun e w' => e = .returned (.bool true) ∧ Below W.heap.size W w')) ∧
    (∀ A D c d W, RdS W A (flat [p, q, r]) → Rds W (lrow [p, q, r]) → RdS W D (flat [q, p, ⟨FX, FY, c, d⟩]) → Rds W (lrow [q, p, ⟨FX, FY, c, d⟩]) → Calls Tryz.prog 13 #[.slice A 3 3, .slice D 3 3] W (fun e w' => e = .returned (.bool false) ∧ Below W.heap.size W w')) ∧
    (∀ A D c d W, RdS W A (flat [p, q, r]) → Rds W (lrow [p, q, r]) → RdS W D (flat [q, p, ⟨FX, FY, c, d⟩]) → Rds W (lrow [q, p, ⟨FX, FY, c, d⟩]) → Calls Tryz.prog 13 #[.slice D 3 3, .slice A 3 3] W (fun e w' => e = .returned (.bool false) ∧ Below W.heap.size W w')) ∧
    (∀ A W, RdS W A (flat [p, q, r]) → Rds W (lrow [p, q, r]) → Calls Tryz.prog 15 #[.slice A 3 3] W (MadeQ W.heap.size H W)) ∧
    (∀ D c d W, RdS W D (flat [q, p, ⟨FX, FY, c, d⟩]) → Rds W (lrow [q, p, ⟨FX, FY, c, d⟩]) → Calls Tryz.prog 15 #[.slice D 3 3] W (MadeQ W.heap.size H W)) ∧
    (∀ a b lo hi W, Rds W (rows H a) → Owns lo hi W (rows H b) → Calls Tryz.prog 14 #[.agg (g3 H.p a.A H.l.length a.c a.D H.m.length a.d), .agg (g3 H.p b.A H.l.length b.c b.D H.m.length b.d)] W (fun e w' => e = .returned (.bool true) ∧ Below W.heap.size W w')) ∧
    (∀ a W, Rds W (rows H a) → Calls Tryz.prog 10 #[.agg (g3 H.p a.A H.l.length a.c a.D H.m.length a.d)] W (fun e w' => e = .returned (.int .i64 1) ∧ Below W.heap.size W w')) := by
  obtain ⟨a, b, hA⟩ := hp.at (by omega)
  obtain ⟨c, d, hB⟩ := hq.at (by omega)
  obtain ⟨e, f, hC⟩ := hr.at (by omega)
  have lp := hp.len (by omega)
  have lq := hq.len (by omega)
  have lr := hr.len (by omega)
  have hD : 0 < det a b c d e f := by
    have h := proper_at hA hB hC (by omega)
    rw [hpr] at h
    exact of_decide_eq_true h.symm
  obtain ⟨s, e1, s0, s1, sf⟩ := shape_at hA hB hC (by omega) hD
  obtain ⟨e3, hf3, h3p⟩ := half_at hA hB hC (by omega) hD
  have eU : bothX (binQ addQ (valx p.x) (valx q.x)) (binQ addQ (valx p.y) (valx q.y)) = some (a + c) := by
    rw [hA.1, hA.2.1, hB.1, hB.2.1, addS hA.2.2.1 hB.2.2.1 (by omega), addS hA.2.2.2 hB.2.2.2 (by omega), (both_some _ _).1]
  have eV : bothY (binQ addQ (valx p.x) (valx q.x)) (binQ addQ (valx p.y) (valx q.y)) = some (b + d) := by
    rw [hA.1, hA.2.1, hB.1, hB.2.1, addS hA.2.2.1 hB.2.2.1 (by omega), addS hA.2.2.2 hB.2.2.2 (by omega), (both_some _ _).2]
  have lU : Lg 7 (a + c) := (hA.2.2.1.add hB.2.2.1).more (by omega)
  have lV : Lg 7 (b + d) := (hA.2.2.2.add hB.2.2.2).more (by omega)
  have vU : valx (ofO (some (a + c))) = some (a + c) := valx_ofO (fitO_some (lU.fit (by omega)))
  have vV : valx (ofO (some (b + d))) = some (b + d) := valx_ofO (fitO_some (lV.fit (by omega)))
  have lX : Lg 11 (a + c - e) := (lU.sub hC.2.2.1).more (by omega)
  have lY : Lg 11 (b + d - f) := (lV.sub hC.2.2.2).more (by omega)
  have eX : bothX (binQ subQ (valx (ofO (some (a + c)))) (valx r.x)) (binQ subQ (valx (ofO (some (b + d)))) (valx r.y)) = some (a + c - e) := by
    rw [vU, vV, hC.1, hC.2.1, subS lU hC.2.2.1 (by omega), subS lV hC.2.2.2 (by omega), (both_some _ _).1]
  have eY : bothY (binQ subQ (valx (ofO (some (a + c)))) (valx r.x)) (binQ subQ (valx (ofO (some (b + d)))) (valx r.y)) = some (b + d - f) := by
    rw [vU, vV, hC.1, hC.2.1, subS lU hC.2.2.1 (by omega), subS lV hC.2.2.2 (by omega), (both_some _ _).2]
  have lnU := (fitO_some (lU.fit (by omega))).len
  have lnV := (fitO_some (lV.fit (by omega))).len
  have hF : ∀ c' d' : Ad, AtP 11 ⟨ofO (some (a + c - e)), ofO (some (b + d - f)), c', d'⟩ (a + c - e) (b + d - f) := fun c' d' => at_mk lX lY (by omega) c' d'
  have lF : ∀ c' d' : Ad, LenP ⟨ofO (some (a + c - e)), ofO (some (b + d - f)), c', d'⟩ := fun c' d' => by
    have h1 := (fitO_some (lX.fit (by omega))).len
    have h2 := (fitO_some (lY.fit (by omega))).len
    exact ⟨⟨Nat.le_trans h1.1 (by omega), Nat.le_trans h1.2 (by omega)⟩, Nat.le_trans h2.1 (by omega), Nat.le_trans h2.2 (by omega)⟩
  have A11 := hA.more (show 3 ≤ 11 by omega)
  have B11 := hB.more (show 3 ≤ 11 by omega)
  have C11 := hC.more (show 3 ≤ 11 by omega)
  have hov := fun c' d' => over_far A11 B11 C11 (hF c' d') (by omega) hD
  have hos := over_self hA hB hC (by omega) hD
  have hfar : ∀ c' d' : Ad, halfA [q, p, ⟨ofO (some (a + c - e)), ofO (some (b + d - f)), c', d'⟩] = some (det a b c d e f * mkRat 1 2) := fun c' d' => by
    have h := (half_at B11 A11 (hF c' d') (by omega) (by rw [det_far]; exact hD)).1
    rw [det_far] at h; exact h
  have d1 := dd_fit sf
  have d2 := dd_fit hf3
  have hk1 : 216 ≤ 216 := Nat.le_refl _
  have hk2 := hk1
  have hL3 := len3 lp lq lr
  have n3 : ([p, q, r] : List PV).length ≤ 9223372036854775807 := by simp
  refine ⟨ofO (some (a + c)), ofO (some (b + d)), ofO (some (a + c - e)), ofO (some (b + d - f)), ofO (some s), ofO (some (det a b c d e f * mkRat 1 2)), ?_, ?_, ?_, ?_, ?_, ?_, ?_, ?_, ?_, ?_, ?_, ?_⟩
  · intro W h h'
    have k := impl_addP p.x p.y q.x q.y p.a p.b q.a q.b W lp.1.1 lp.1.2 lp.2.1 lp.2.2 lq.1.1 lq.1.2 lq.2.1 lq.2.2 h h'
    rw [eU, eV] at k; exact k
  · intro a' b' W h h'
    have k := impl_subP (ofO (some (a + c))) (ofO (some (b + d))) r.x r.y a' b' r.a r.b W (Nat.le_trans lnU.1 (by omega)) (Nat.le_trans lnU.2 (by omega)) (Nat.le_trans lnV.1 (by omega)) (Nat.le_trans lnV.2 (by omega)) lr.1.1 lr.1.2 lr.2.1 lr.2.2 h h'
    rw [eX, eY] at k; exact k
  · intro A W h h'
    have k := impl_shapeOf [p, q, r] A 3 W n3 hL3 h h'
    rw [e1] at k; exact k
  · intro a' W h
    exact sign_dd d1 hk1 (by rw [valx_ofO (fitO_some sf)]; exact sgn_yes s0) a' W h
  · intro a' b' W h h'
    refine cmp_dd d1 ((rfi_dd 1 (by decide) (by decide)).more (by omega)) hk1 ?_ a' b' W h h'
    · rw [valx_ofO (fitO_some sf), (rfi_at 1 (by decide) (by decide)).1]
      show cmpQ s _ = -1
      unfold cmpQ
      rw [if_pos (by rw [show ((1 : Int) : Rat) = 1 from rfl]; exact s1)]
  · intro A W h h'
    have k := impl_overlap [p, q, r] [p, q, r] A A 3 3 W n3 hL3 h h' n3 hL3 h h'
    rw [hos] at k; exact k
  · intro A D c' d' W h h' k k'
    have z := impl_overlap [p, q, r] [q, p, ⟨ofO (some (a + c - e)), ofO (some (b + d - f)), c', d'⟩] A D 3 3 W n3 hL3 h h' (by simp) (len3 lq lp (lF c' d')) k k'
    rw [(hov c' d').2.1] at z; exact z
  · intro A D c' d' W h h' k k'
    have z := impl_overlap [q, p, ⟨ofO (some (a + c - e)), ofO (some (b + d - f)), c', d'⟩] [p, q, r] D A 3 3 W (by simp) (len3 lq lp (lF c' d')) k k' n3 hL3 h h'
    rw [(hov c' d').2.2] at z; exact z
  · intro A W h h'
    have k := impl_areaOf [p, q, r] A 3 W n3 hL3 h h'
    rw [e3] at k; exact k
  · intro D c' d' W h h'
    have k := impl_areaOf [q, p, ⟨ofO (some (a + c - e)), ofO (some (b + d - f)), c', d'⟩] D 3 W (by simp) (len3 lq lp (lF c' d')) h h'
    rw [hfar] at k; exact k
  · intro a' b' lo hi W h h'
    exact eq_dd d2 hk2 a' b' lo hi W h h'
  · intro a' W h
    exact sign_dd d2 hk2 (by rw [valx_ofO (fitO_some hf3)]; exact sgn_yes h3p) a' W h
end Go.Proofs.YtaohiacpdljacaaGreat
