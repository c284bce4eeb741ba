/-
  The model's Gradients.
-/
import Derived.Test.YtppdholccpgcpaaGreatWg
import Derived.Test.YtppdholccpgcpaaGreatWp
import Derived.Test.YtppdholccpgcpaaGreatGrC
import Derived.Test.YtppdholccpgcpaaGreatShC
namespace Go.Proofs.YtppdholccpgcpaaGreat
open Go.ChangeShapes Go.WideShapes Go.ChangeAt Go.RowKit
set_option linter.unusedVariables false
set_option linter.unusedSimpArgs false
set_option maxRecDepth 4000
attribute [local go_sem ↓] Go.wp_at_zero Go.wp_at_succ
def quo1 (j k : PV) (s : Option Rat) : Option Rat := binQ quoQ (binQ subQ (valx j.y) (valx k.y)) s
def quo2 (j k : PV) (s : Option Rat) : Option Rat := binQ quoQ (binQ subQ (valx k.x) (valx j.x)) s
def vB (j k : PV) (s : Option Rat) : Bool := (quo1 j k s).isSome && (quo2 j k s).isSome
theorem tX_some (j k : PV) (s : Option Rat) : (tX j k (invO s)).isSome = vB j k s := by
  rw [(tX_quo j k s).1]
  show (bothX (quo1 j k s) (quo2 j k s)).isSome = _
  unfold vB
  cases quo1 j k s <;> cases quo2 j k s <;> rfl
theorem tXY_eq {j k : PV} {s : Option Rat} (h : vB j k s = true) : tX j k (invO s) = quo1 j k s ∧ tY j k (invO s) = quo2 j k s := by
  rw [(tX_quo j k s).1, (tX_quo j k s).2]
  show bothX (quo1 j k s) (quo2 j k s) = _ ∧ bothY (quo1 j k s) (quo2 j k s) = _
  unfold vB at h
  cases h1 : quo1 j k s with
  | none => rw [h1] at h; cases h
  | some a =>
    cases h2 : quo2 j k s with
    | none => rw [h1, h2] at h; cases h
    | some b => exact ⟨rfl, rfl⟩
theorem tX_pos (j k : PV) (s : Option Rat) : (0 < (ofO (tX j k (invO s))).m.length) = (vB j k s = true) := by
  rw [← tX_some, ← len_pos, decide_eq_true_eq]
theorem gradV_no {p q r : PV} {s : Option Rat} (h : ¬ (vB q r s = true ∧ vB r p s = true ∧ vB p q s = true)) : gradV p q r (invO s) = [] := by
  unfold gradV gl3
  refine if_neg (fun h' => h ?_)
  rw [tX_pos, tX_pos, tX_pos] at h'
  exact h'
theorem gradV_yes {p q r : PV} {s : Option Rat} (h : vB q r s = true ∧ vB r p s = true ∧ vB p q s = true) : dat (gradV p q r (invO s)) = [(ofO (quo1 q r s), ofO (quo2 q r s)), (ofO (quo1 r p s), ofO (quo2 r p s)), (ofO (quo1 p q s), ofO (quo2 p q s))] := by
  unfold gradV gl3
  rw [if_pos (by rw [tX_pos, tX_pos, tX_pos]; exact h), (tXY_eq h.1).1, (tXY_eq h.1).2, (tXY_eq h.2.1).1, (tXY_eq h.2.1).2, (tXY_eq h.2.2).1, (tXY_eq h.2.2).2]
  rfl
theorem grad_no {L : List PV} (h : properB L = false) : gradL L = [] := by
  unfold gradL
  rw [aT_no h]
  refine gradV_no (fun h' => ?_)
  have h1 := h'.1
  unfold vB quo1 at h1
  have e : ∀ o : Option Rat, binQ quoQ o none = none := fun o => by cases o <;> rfl
  rw [e] at h1
  cases h1
theorem quo1_fit (j k : PV) (s : Option Rat) : FitO (quo1 j k s) := quoO_fit _ _
theorem quo2_fit (j k : PV) (s : Option Rat) : FitO (quo2 j k s) := quoO_fit _ _
theorem okP_quo (j k : PV) (s : Option Rat) (a b : Ad) : okP ⟨ofO (quo1 j k s), ofO (quo2 j k s), a, b⟩ = vB j k s := by
  unfold okP vB
  rw [okx_ofO (quo1_fit j k s), okx_ofO (quo2_fit j k s)]
theorem mid_owns {lo hi lo' hi' : Nat} {w : World} {rs ss : List (Option Addr × List Value)} (h : Owns lo hi w rs) (h' : Owns lo' hi' w ss) (hm : hi ≤ lo') : Owns lo lo' w rs := h.wide (Nat.le_refl _) hm
set_option maxHeartbeats 8000000 in
theorem spec_gradients (L : List PV) (A : Option Addr) (c : Nat) (w : World) (hn : L.length ≤ 9223372036854775807) (hL : ∀ p, p ∈ L → LenP p) (hC : ∀ p, p ∈ L → CapP p) (hA : RdS w A (flat L)) (hR : Rds w (lrow L)) :
    Calls Tryz.prog 37 #[.slice A L.length c] w (MadePS w.heap.size (gradL L) w) := by
  have HP := Lib.hid (fun W h h' => spec_proper L A c W hn hL hC h h')
  have RP : Hid (∀ W, Below w.heap.size w W → RdS W A (flat L) ∧ Rds W (lrow L)) := Lib.hid (fun W hB => ⟨hA.below hB, hR.below hB⟩)
  cases hp : properB L with
  | false =>
    rw [hp] at HP
    rw [grad_no hp]
    generalize L.length = n at HP ⊢
    clear hA hR hL hC hn hp
    go_enter Tryz.func37, Tryz.ntmps37
    have kb := Below.refl w.heap.size w
    go_wp2_with fail
    refine (HP.out _ (RP.out _ kb).1 (RP.out _ kb).2).mono ?_
    rintro e W1 ⟨rfl, hb⟩
    replace kb := bt kb hb
    clear hb
    go_wp2
    go_ret
    exact made_none _ rfl kb
  | true =>
    obtain ⟨p, q, r, rfl, _, _⟩ := properB_three hp
    obtain ⟨g, o, rfl, hg, c0, c1, c2, c3, c4, c5, c6, c7, c8, c9, c10, c11, c12, c13, c14, c15, c16, c17⟩ := hA.tri
    rw [hp] at HP
    obtain ⟨et1, et2, et3⟩ := tri_yes hp
    have eG : gradL [p, q, r] = gradV p q r (invO (aV p q r)) := by unfold gradL; rw [aT_yes hp, et1, et2, et3]
    rw [eG]
    have HA := Lib.hid (fun W h1 h2 h3 => spec_areaV p q r W (hL p (by simp)) (hL q (by simp)) (hL r (by simp)) (hC p (by simp)) (hC q (by simp)) (hC r (by simp)) h1 h2 h3)
    have hu := (aV_fit p q r).len
    have HDG : Hid (∀ (x : Option Rat) (a c : Ad) W, FitO x → (ofO x).l.length ≤ a.c ∧ (ofO x).m.length ≤ a.d → (ofO (aV p q r)).l.length ≤ c.c ∧ (ofO (aV p q r)).m.length ≤ c.d → Rds W (rows (ofO x) a) → Rds W (rows (ofO (aV p q r)) c) → Calls Tryz.prog 101 #[.agg (r3 (ofO x) a), .agg (r3 (ofO (aV p q r)) c)] W (MadeQ W.heap.size (ofO (binQ quoQ x (aV p q r))) W)) := Lib.hid (fun x a c W hx kx ku h h' => by
      have hxl := hx.len
      have K := spec_div_r (ofO x) (ofO (aV p q r)) a c W (by omega) (by omega) (by omega) (by omega) kx ku h h'
      rw [valx_ofO (aV_fit p q r), valx_ofO hx] at K
      exact K)
    obtain ⟨DL, hDL⟩ : ∃ DL, DL = [(ofO (quo1 q r (aV p q r)), ofO (quo2 q r (aV p q r))), (ofO (quo1 r p (aV p q r)), ofO (quo2 r p (aV p q r))), (ofO (quo1 p q (aV p q r)), ofO (quo2 p q (aV p q r)))] := ⟨_, rfl⟩
    obtain ⟨VL, hVL⟩ : ∃ VL, VL = [vB q r (aV p q r), vB r p (aV p q r), vB p q (aV p q r)] := ⟨_, rfl⟩
    have GN : Hid (∀ i : Nat, VL[i]? = some false → gradV p q r (invO (aV p q r)) = []) := Lib.hid (fun i h => gradV_no (fun h' => by
      rw [hVL, h'.1, h'.2.1, h'.2.2] at h
      match i, h with
      | 0, h => cases h
      | 1, h => cases h
      | 2, h => cases h
      | _ + 3, h => cases h))
    have GY : Hid ((∀ i : Nat, i < 3 → VL[i]? = some true) → dat (gradV p q r (invO (aV p q r))) = DL) := Lib.hid (fun h => by
      rw [hDL]
      have h0 := h 0 (by omega)
      have h1 := h 1 (by omega)
      have h2 := h 2 (by omega)
      rw [hVL] at h0 h1 h2
      injection h0 with h0
      injection h1 with h1
      injection h2 with h2
      exact gradV_yes ⟨h0, h1, h2⟩)
    have GL3 : Hid (DL.length = 3) := Lib.hid (by rw [hDL]; rfl)
    have SEL : Hid (∀ j : Nat, j < 3 → ∃ a b : PV, ((j = 0 ∧ a = q ∧ b = r) ∨ (j = 1 ∧ a = r ∧ b = p) ∨ (j = 2 ∧ a = p ∧ b = q)) ∧ (LenP a ∧ CapP a ∧ ∀ W, Below w.heap.size w W → Rds W (prow a)) ∧ (LenP b ∧ CapP b ∧ ∀ W, Below w.heap.size w W → Rds W (prow b)) ∧ DL[j]? = some (ofO (quo1 a b (aV p q r)), ofO (quo2 a b (aV p q r))) ∧ VL[j]? = some (vB a b (aV p q r))) := Lib.hid (fun j hj => by
      have tp : LenP p ∧ CapP p ∧ ∀ W, Below w.heap.size w W → Rds W (prow p) := ⟨hL p (by simp), hC p (by simp), fun W hB => (hR.at (i := 0) rfl).below hB⟩
      have tq : LenP q ∧ CapP q ∧ ∀ W, Below w.heap.size w W → Rds W (prow q) := ⟨hL q (by simp), hC q (by simp), fun W hB => (hR.at (i := 1) rfl).below hB⟩
      have tr : LenP r ∧ CapP r ∧ ∀ W, Below w.heap.size w W → Rds W (prow r) := ⟨hL r (by simp), hC r (by simp), fun W hB => (hR.at (i := 2) rfl).below hB⟩
      have hjc : j = 0 ∨ j = 1 ∨ j = 2 := by omega
      rcases hjc with rfl | rfl | rfl
      · exact ⟨q, r, .inl ⟨rfl, rfl, rfl⟩, tq, tr, by rw [hDL]; rfl, by rw [hVL]; rfl⟩
      · exact ⟨r, p, .inr (.inl ⟨rfl, rfl, rfl⟩), tr, tp, by rw [hDL]; rfl, by rw [hVL]; rfl⟩
      · exact ⟨p, q, .inr (.inr ⟨rfl, rfl, rfl⟩), tp, tq, by rw [hDL]; rfl, by rw [hVL]; rfl⟩)
    clear hDL hVL
    have RR : Hid (∀ W, Below w.heap.size w W → Rds W (prow p) ∧ Rds W (prow q) ∧ Rds W (prow r)) := Lib.hid (fun W hB => ⟨(hR.at (i := 0) rfl).below hB, (hR.at (i := 1) rfl).below hB, (hR.at (i := 2) rfl).below hB⟩)
    have SL : Hid (∀ w', Below w.heap.size w w' → (w'.cell? ⟨g, o, none⟩ = some (.bool p.x.p) ∧ w'.cell? ⟨g, o + 1, none⟩ = some (.slice p.a.A p.x.l.length p.a.c) ∧ w'.cell? ⟨g, o + 2, none⟩ = some (.slice p.a.D p.x.m.length p.a.d) ∧ w'.cell? ⟨g, o + 3, none⟩ = some (.bool p.y.p) ∧ w'.cell? ⟨g, o + 4, none⟩ = some (.slice p.b.A p.y.l.length p.b.c) ∧ w'.cell? ⟨g, o + 5, none⟩ = some (.slice p.b.D p.y.m.length p.b.d) ∧ w'.cell? ⟨g, o + 6, none⟩ = some (.bool q.x.p) ∧ w'.cell? ⟨g, o + 7, none⟩ = some (.slice q.a.A q.x.l.length q.a.c) ∧ w'.cell? ⟨g, o + 8, none⟩ = some (.slice q.a.D q.x.m.length q.a.d) ∧ w'.cell? ⟨g, o + 9, none⟩ = some (.bool q.y.p) ∧ w'.cell? ⟨g, o + 10, none⟩ = some (.slice q.b.A q.y.l.length q.b.c) ∧ w'.cell? ⟨g, o + 11, none⟩ = some (.slice q.b.D q.y.m.length q.b.d) ∧ w'.cell? ⟨g, o + 12, none⟩ = some (.bool r.x.p) ∧ w'.cell? ⟨g, o + 13, none⟩ = some (.slice r.a.A r.x.l.length r.a.c) ∧ w'.cell? ⟨g, o + 14, none⟩ = some (.slice r.a.D r.x.m.length r.a.d) ∧ w'.cell? ⟨g, o + 15, none⟩ = some (.bool r.y.p) ∧ w'.cell? ⟨g, o + 16, none⟩ = some (.slice r.b.A r.y.l.length r.b.c) ∧ w'.cell? ⟨g, o + 17, none⟩ = some (.slice r.b.D r.y.m.length r.b.d))) := Lib.hid (fun w' hB => ⟨below_cell hB c0, below_cell hB c1, below_cell hB c2, below_cell hB c3, below_cell hB c4, below_cell hB c5, below_cell hB c6, below_cell hB c7, below_cell hB c8, below_cell hB c9, below_cell hB c10, below_cell hB c11, below_cell hB c12, below_cell hB c13, below_cell hB c14, below_cell hB c15, below_cell hB c16, below_cell hB c17⟩)
    show Calls Tryz.prog 37 #[.slice (some ⟨g, o, none⟩) 3 c] w (MadePS w.heap.size (gradV p q r (invO (aV p q r))) w)
    generalize gradV p q r (invO (aV p q r)) = GL at GN GY ⊢
    generalize ofO (aV p q r) = U at HA HDG hu
    unfold MadeQ at HA HDG
    have HP' : Hid (∀ W, RdS W (some ⟨g, o, none⟩) (flat [p, q, r]) → Rds W (lrow [p, q, r]) → Calls Tryz.prog 99 #[.slice (some ⟨g, o, none⟩) 3 c] W (fun e w' => e = .returned (.bool true) ∧ Below W.heap.size W w')) := HP
    clear HP
    clear hA hR hL hC hn hp hu eG et1 et2 et3 c0 c1 c2 c3 c4 c5 c6 c7 c8 c9 c10 c11 c12 c13 c14 c15 c16 c17
    go_enter Tryz.func37, Tryz.ntmps37
    have kb := Below.refl w.heap.size w
    go_wp2_with fail
    refine (HP'.out _ (RP.out _ kb).1 (RP.out _ kb).2).mono ?_
    rintro e W1 ⟨rfl, hb⟩
    replace kb := bt kb hb
    clear hb
    obtain ⟨c0, c1, c2, c3, c4, c5, c6, c7, c8, c9, c10, c11, c12, c13, c14, c15, c16, c17⟩ := SL.out _ kb
    go_wp2_with fail
    have SB : Hid (∀ w', Below W1.heap.size W1 w' → (w'.cell? ⟨g, o, none⟩ = some (.bool p.x.p) ∧ w'.cell? ⟨g, o + 1, none⟩ = some (.slice p.a.A p.x.l.length p.a.c) ∧ w'.cell? ⟨g, o + 2, none⟩ = some (.slice p.a.D p.x.m.length p.a.d) ∧ w'.cell? ⟨g, o + 3, none⟩ = some (.bool p.y.p) ∧ w'.cell? ⟨g, o + 4, none⟩ = some (.slice p.b.A p.y.l.length p.b.c) ∧ w'.cell? ⟨g, o + 5, none⟩ = some (.slice p.b.D p.y.m.length p.b.d) ∧ w'.cell? ⟨g, o + 6, none⟩ = some (.bool q.x.p) ∧ w'.cell? ⟨g, o + 7, none⟩ = some (.slice q.a.A q.x.l.length q.a.c) ∧ w'.cell? ⟨g, o + 8, none⟩ = some (.slice q.a.D q.x.m.length q.a.d) ∧ w'.cell? ⟨g, o + 9, none⟩ = some (.bool q.y.p) ∧ w'.cell? ⟨g, o + 10, none⟩ = some (.slice q.b.A q.y.l.length q.b.c) ∧ w'.cell? ⟨g, o + 11, none⟩ = some (.slice q.b.D q.y.m.length q.b.d) ∧ w'.cell? ⟨g, o + 12, none⟩ = some (.bool r.x.p) ∧ w'.cell? ⟨g, o + 13, none⟩ = some (.slice r.a.A r.x.l.length r.a.c) ∧ w'.cell? ⟨g, o + 14, none⟩ = some (.slice r.a.D r.x.m.length r.a.d) ∧ w'.cell? ⟨g, o + 15, none⟩ = some (.bool r.y.p) ∧ w'.cell? ⟨g, o + 16, none⟩ = some (.slice r.b.A r.y.l.length r.b.c) ∧ w'.cell? ⟨g, o + 17, none⟩ = some (.slice r.b.D r.y.m.length r.b.d) ∧ Below W1.heap.size W1 w')) := Lib.hid (fun w' hB => ⟨below_cell hB c0, below_cell hB c1, below_cell hB c2, below_cell hB c3, below_cell hB c4, below_cell hB c5, below_cell hB c6, below_cell hB c7, below_cell hB c8, below_cell hB c9, below_cell hB c10, below_cell hB c11, below_cell hB c12, below_cell hB c13, below_cell hB c14, below_cell hB c15, below_cell hB c16, below_cell hB c17, hB⟩)
    have KW := Lib.hid kb
    go_cut [3] (fun sv wx => CutV3 W1 29 U sv wx)
    case first =>
      clear kb
      go_region_held3 (fun w' => w'.cell? ⟨g, o, none⟩ = some (.bool p.x.p) ∧ w'.cell? ⟨g, o + 1, none⟩ = some (.slice p.a.A p.x.l.length p.a.c) ∧ w'.cell? ⟨g, o + 2, none⟩ = some (.slice p.a.D p.x.m.length p.a.d) ∧ w'.cell? ⟨g, o + 3, none⟩ = some (.bool p.y.p) ∧ w'.cell? ⟨g, o + 4, none⟩ = some (.slice p.b.A p.y.l.length p.b.c) ∧ w'.cell? ⟨g, o + 5, none⟩ = some (.slice p.b.D p.y.m.length p.b.d) ∧ w'.cell? ⟨g, o + 6, none⟩ = some (.bool q.x.p) ∧ w'.cell? ⟨g, o + 7, none⟩ = some (.slice q.a.A q.x.l.length q.a.c) ∧ w'.cell? ⟨g, o + 8, none⟩ = some (.slice q.a.D q.x.m.length q.a.d) ∧ w'.cell? ⟨g, o + 9, none⟩ = some (.bool q.y.p) ∧ w'.cell? ⟨g, o + 10, none⟩ = some (.slice q.b.A q.y.l.length q.b.c) ∧ w'.cell? ⟨g, o + 11, none⟩ = some (.slice q.b.D q.y.m.length q.b.d) ∧ w'.cell? ⟨g, o + 12, none⟩ = some (.bool r.x.p) ∧ w'.cell? ⟨g, o + 13, none⟩ = some (.slice r.a.A r.x.l.length r.a.c) ∧ w'.cell? ⟨g, o + 14, none⟩ = some (.slice r.a.D r.x.m.length r.a.d) ∧ w'.cell? ⟨g, o + 15, none⟩ = some (.bool r.y.p) ∧ w'.cell? ⟨g, o + 16, none⟩ = some (.slice r.b.A r.y.l.length r.b.c) ∧ w'.cell? ⟨g, o + 17, none⟩ = some (.slice r.b.D r.y.m.length r.b.d) ∧ Below W1.heap.size W1 w')
        (first | (go_split_ands; with_reducible refine SB.out _ ?_; with_reducible refine below_put3 ?_ ?_ _ _ _; with_reducible assumption; (first | with_reducible exact Nat.le_refl _ | with_reducible assumption | exact Nat.le_refl _ | assumption)) | (with_reducible exact SB.out _ (Below.refl _ _).drew) | (with_reducible exact SB.out _ (ba1 _ _).drew) | (with_reducible exact SB.out _ (ba1 _ _)) | (with_reducible exact SB.out _ (Below.refl _ _)) | (go_split_ands; with_reducible exact SB.out _ (bt (by assumption : Below W1.heap.size W1 _) hb)) | (go_split_ands; with_reducible exact SB.out _ (Below.alloc (by assumption : Below W1.heap.size W1 _) (Below.size (by assumption : Below W1.heap.size W1 _)) _)))
        (first | (go_at_call 100; go_split_ands; ((with_reducible refine (HA.out _ (RR.out _ (bt KW.out (by assumption : Below W1.heap.size W1 _))).1 (RR.out _ (bt KW.out (by assumption : Below W1.heap.size W1 _))).2.1 (RR.out _ (bt KW.out (by assumption : Below W1.heap.size W1 _))).2.2).mono ?_); rintro e Wq0 ⟨a1, rfl, hc1, hc2, o1, hap1, hb⟩; have hcap := And.intro hc1 hc2; have KB0 := (by assumption : Below W1.heap.size W1 _); have KB := bt KB0 hb; have hsC := KB.size; have hs0 := KB0.size; (first | (with_reducible have tt := (tt_a hb).1; with_reducible have hgB := (tt_a hb).2) | (with_reducible have tt := (tt_b hb).1; with_reducible have hgB := (tt_b hb).2) | (with_reducible have hgB := (tt_c tt hb).2; with_reducible replace tt := (tt_c tt hb).1) | skip); (first | (have t0 := rblk_cell tt 0; have q0 := rblk_free tt 0; have t1 := rblk_cell tt 1; have q1 := rblk_free tt 1; have t2 := rblk_cell tt 2; have q2 := rblk_free tt 2) | skip))))
      all_goals (go_wp2_with fail; go_meet; first | (with_reducible exact cutV3_late hsC hcap o1 hs0 (Nat.le_refl _) hap1 KB) | (with_reducible exact cutV3_early tt (by first | with_reducible exact Nat.le_refl _ | with_reducible assumption | exact Nat.le_refl _ | assumption) hgB hcap o1 hs0 (Nat.le_refl _) hap1 KB))
    case rest =>
      obtain ⟨g_d, a1, rfl, hlo_d, hcap_d, P_d, o1, hap1, hb⟩ := hcut
      obtain ⟨W2, hWn⟩ : ∃ W', W' = wc := ⟨_, rfl⟩
      subst hWn
      replace kb := bt kb hb
      clear hb KW SB
      clear c0 c1 c2 c3 c4 c5 c6 c7 c8 c9 c10 c11 c12 c13 c14 c15 c16 c17
      go_wp2_with fail
      have HW : Hid (∀ W, Below W2.heap.size W2 W → W.heap[g_d]? = some (.cells (r3 U a1) 29 (0, 0)) ∧ Rds W (rows U a1) ∧ Below w.heap.size w W) := Lib.hid (fun W hB => ⟨rblk_below P_d hB, (o1.below hB).rds, bt kb hB⟩)
      have HC := Lib.hid hcap_d
      have HZ := Lib.hid kb.size
      have hown := World.ownsRow_made (base := W2.heap.size) (e := 31) (size := 6) W2 #[] 0 (Nat.le_refl _) (by decide) rfl
      have k2 := ba1 W2 (.cells #[] 31)
      clear hcap_d hlo_d P_d o1 hap1 kb
      go_loopw [25, 4] (fun k v w' => ∃ (j : Nat) (M : List PV) (A : Option Addr) (c' : Nat), j ≤ 3 ∧ k = .int .i64 (j : Int) ∧ v = .slice A j c' ∧ M.length = j ∧ w'.ownsRow W2.heap.size 31 6 (.slice A j c') j (flat M) ∧ dat M = DL.take j ∧ (∀ i, i < j → VL[i]? = some true) ∧ (∀ p, p ∈ M → CapP p) ∧ Owns W2.heap.size w'.heap.size w' (lrow M) ∧ Aparts (lrow M) ∧ Below W2.heap.size W2 w') (fun k _ _ => 3 - (intOf k).toNat)
      case atStart => exact ⟨0, [], _, _, by omega, rfl, rfl, rfl, hown, rfl, (fun i h => by omega), (fun p hp => by cases hp), Owns.nil _ _ _, Aparts.nil, k2⟩
      case round =>
        clear hown k2
        obtain ⟨j, M, A, c', hj, rfl, rfl, hM, hown, hd, hv, hcap, hO, hap, kr⟩ := hrel
        have HF := Lib.hid (And.intro hM (And.intro hd (And.intro hcap hv)))
        have HR := Lib.hid (And.intro hown (And.intro hO hap))
        have HVZ : Hid (∀ g, (Value.slice A j c').ownBlock = some g → g < wr.heap.size) := Lib.hid (fun g h => (hown.lt g h).2)
        clear hM hd hcap hv hown hO hap
        by_cases hlt : j < 3
        · skip
          obtain ⟨a, b, sel, ⟨la, ka, ra⟩, ⟨lb, kb, rb⟩, hDj, hVj⟩ := SEL.out j hlt
          have HS0 : Hid (∀ W, Below w.heap.size w W → Calls Tryz.prog 102 #[.agg (r3 a.y a.b), .agg (r3 b.y b.b)] W (MadeQ W.heap.size (ofO (binQ subQ (valx a.y) (valx b.y))) W)) := Lib.hid (fun W hB => spec_rsub_r a.y b.y a.b b.b W la.2.1 la.2.2 lb.2.1 lb.2.2 ka.2.2 kb.2.2 (rds_r (ra W hB)) (rds_r (rb W hB)))
          have HS1 : Hid (∀ W, Below w.heap.size w W → Calls Tryz.prog 102 #[.agg (r3 b.x b.a), .agg (r3 a.x a.a)] W (MadeQ W.heap.size (ofO (binQ subQ (valx b.x) (valx a.x))) W)) := Lib.hid (fun W hB => spec_rsub_r b.x a.x b.a a.a W lb.1.1 lb.1.2 la.1.1 la.1.2 ⟨kb.1, kb.2.1⟩ ⟨ka.1, ka.2.1⟩ (rds_l (rb W hB)) (rds_l (ra W hB)))
          have HD0 : Hid (∀ (c d : Ad) W, (ofO (binQ subQ (valx a.y) (valx b.y))).l.length ≤ c.c ∧ (ofO (binQ subQ (valx a.y) (valx b.y))).m.length ≤ c.d → U.l.length ≤ d.c ∧ U.m.length ≤ d.d → Rds W (rows (ofO (binQ subQ (valx a.y) (valx b.y))) c) → Rds W (rows U d) → Calls Tryz.prog 101 #[.agg (r3 (ofO (binQ subQ (valx a.y) (valx b.y))) c), .agg (r3 U d)] W (MadeQ W.heap.size (ofO (quo1 a b (aV p q r))) W)) := Lib.hid (fun c d W kx ku h h' => HDG.out _ c d W (subO_fit _ _) kx ku h h')
          have HD1 : Hid (∀ (c d : Ad) W, (ofO (binQ subQ (valx b.x) (valx a.x))).l.length ≤ c.c ∧ (ofO (binQ subQ (valx b.x) (valx a.x))).m.length ≤ c.d → U.l.length ≤ d.c ∧ U.m.length ≤ d.d → Rds W (rows (ofO (binQ subQ (valx b.x) (valx a.x))) c) → Rds W (rows U d) → Calls Tryz.prog 101 #[.agg (r3 (ofO (binQ subQ (valx b.x) (valx a.x))) c), .agg (r3 U d)] W (MadeQ W.heap.size (ofO (quo2 a b (aV p q r))) W)) := Lib.hid (fun c d W kx ku h h' => HDG.out _ c d W (subO_fit _ _) kx ku h h')
          have HV : Hid (∀ (c d : Ad) W, Rds W (rows (ofO (quo1 a b (aV p q r))) c ++ rows (ofO (quo2 a b (aV p q r))) d) → Calls Tryz.prog 103 #[.agg (r6 (ofO (quo1 a b (aV p q r))) (ofO (quo2 a b (aV p q r))) c d)] W (fun e w2 => e = .returned (.bool (vB a b (aV p q r))) ∧ Below W.heap.size W w2)) := Lib.hid (fun c d W h => by
            have h1 := (quo1_fit a b (aV p q r)).len
            have h2 := (quo2_fit a b (aV p q r)).len
            have K := spec_validV ⟨ofO (quo1 a b (aV p q r)), ofO (quo2 a b (aV p q r)), c, d⟩ W ⟨⟨by dsimp only; omega, by dsimp only; omega⟩, by dsimp only; omega, by dsimp only; omega⟩ h
            rw [okP_quo] at K; exact K)
          generalize ofO (quo1 a b (aV p q r)) = C at HD0 HV hDj
          generalize ofO (quo2 a b (aV p q r)) = D at HD1 HV hDj
          generalize ofO (binQ subQ (valx a.y) (valx b.y)) = A0 at HS0 HD0
          generalize ofO (binQ subQ (valx b.x) (valx a.x)) = B0 at HS1 HD1
          generalize vB a b (aV p q r) = vb at HV hVj
          unfold MadeQ at HS0 HS1 HD0 HD1
          have HJ := Lib.hid (And.intro hDj hVj)
          have HS := Lib.hid sel
          clear la ka ra lb kb rb hDj hVj sel
          have hi0 : (0 : Int) ≤ (j : Int) := by omega
          have hi1 : (j : Int) < 3 := by omega
          go_upto_region 8 with fail
          go_cut [6] (fun sv wx => ∃ g6, sv = .pointer (some ⟨g6, 0, none⟩) ∧ wr.heap.size ≤ g6 ∧ wx.heap[g6]? = some (.cells (p6 a) 31 (0, 0)) ∧ Below wr.heap.size wr wx)
          case first =>
            obtain ⟨c0, c1, c2, c3, c4, c5, c6, c7, c8, c9, c10, c11, c12, c13, c14, c15, c16, c17⟩ := SL.out _ (HW.out _ kr).2.2
            rcases HS.out with ⟨rfl, rfl, rfl⟩ | ⟨rfl, rfl, rfl⟩ | ⟨rfl, rfl, rfl⟩
            all_goals (go_wp2_with fail; go_meet; exact ⟨_, rfl, Nat.le_refl _, heap_alloc_new _ _, ba1 _ _⟩)
          case rest =>
            obtain ⟨g6, rfl, hlg6, Pg6, hbg6⟩ := hcut
            obtain ⟨W6, hWn⟩ : ∃ W', W' = wc := ⟨_, rfl⟩
            subst hWn
            go_upto_region 9 with fail
            go_cut [7] (fun sv wx => ∃ g6, sv = .pointer (some ⟨g6, 0, none⟩) ∧ W6.heap.size ≤ g6 ∧ wx.heap[g6]? = some (.cells (p6 b) 31 (0, 0)) ∧ Below W6.heap.size W6 wx)
            case first =>
              obtain ⟨c0, c1, c2, c3, c4, c5, c6, c7, c8, c9, c10, c11, c12, c13, c14, c15, c16, c17⟩ := SL.out _ (HW.out _ (bt kr hbg6)).2.2
              rcases HS.out with ⟨rfl, rfl, rfl⟩ | ⟨rfl, rfl, rfl⟩ | ⟨rfl, rfl, rfl⟩
              all_goals (go_wp2_with fail; go_meet; exact ⟨_, rfl, Nat.le_refl _, heap_alloc_new _ _, ba1 _ _⟩)
            case rest =>
              obtain ⟨g7, rfl, hlg7, Pg7, hbg7⟩ := hcut
              obtain ⟨Wx, hWn⟩ : ∃ W', W' = wc := ⟨_, rfl⟩
              subst hWn
              go_wp2_with fail
              have P_6 := rblk_below Pg6 hbg7
              have hw := bt hbg6 hbg7
              have K2 := Lib.hid (bt kr hw)
              have P_d := (HW.out _ K2.out).1
              have hwx := hw.size
              have SB : Hid (∀ w', Below Wx.heap.size Wx w' → (w'.heap[g6]? = some (.cells (p6 a) 31 (0, 0)) ∧ w'.heap[g7]? = some (.cells (p6 b) 31 (0, 0)) ∧ w'.heap[g_d]? = some (.cells (r3 U a1) 29 (0, 0)) ∧ Below Wx.heap.size Wx w')) := Lib.hid (fun w' hB => ⟨rblk_below P_6 hB, rblk_below Pg7 hB, rblk_below P_d hB, hB⟩)
              clear P_6 Pg7 Pg6 P_d hbg6 hbg7 hlg6 hlg7
              go_cut [8] (fun sv wx => CutV6 Wx 31 C D sv wx)
              case first =>
                refine wp_region_held_drew (S := fun w' => w'.heap[g6]? = some (.cells (p6 a) 31 (0, 0)) ∧ w'.heap[g7]? = some (.cells (p6 b) 31 (0, 0)) ∧ w'.heap[g_d]? = some (.cells (r3 U a1) 29 (0, 0)) ∧ Below Wx.heap.size Wx w') (by kernel_rfl) (SB.out _ (Below.refl _ _).drew) (fun hHeld => ?_)
                generalize Wx.drew = Wd at *
                have hzWd := hHeld.2.2.2.size
                refine tk (i := 0) (v := ?v0) rfl (by kernel_rfl) (fun _ _ _ h => h) (Or.inl ⟨by rfl, ?h0⟩) hHeld ?_
                case h0 => (intro w hSw; (try dsimp only at hSw); clear hSw; go_simp; (try with_reducible rfl))
                try simp only [ps]
                refine tk (i := 1) (v := ?v1) rfl (by kernel_rfl) (fun _ _ _ h => h) (Or.inl ⟨by rfl, ?h1⟩) hHeld ?_
                case h1 => (intro w hSw; (try dsimp only at hSw); have t3 := rblk_cell hSw.1 3; have t4 := rblk_cell hSw.1 4; have t5 := rblk_cell hSw.1 5; clear hSw; go_simp; (try with_reducible rfl))
                try simp only [ps]
                refine tk (i := 2) (v := ?v2) rfl (by kernel_rfl) (fun _ _ _ h => h) (Or.inl ⟨by rfl, ?h2⟩) hHeld ?_
                case h2 => (intro w hSw; (try dsimp only at hSw); clear hSw; go_simp; (try with_reducible rfl))
                try simp only [ps]
                refine tk (i := 3) (v := ?v3) rfl (by kernel_rfl) (fun _ _ _ h => h) (Or.inl ⟨by rfl, ?h3⟩) hHeld ?_
                case h3 => (intro w hSw; (try dsimp only at hSw); have t3 := rblk_cell hSw.2.1 3; have t4 := rblk_cell hSw.2.1 4; have t5 := rblk_cell hSw.2.1 5; clear hSw; go_simp; (try with_reducible rfl))
                try simp only [ps]
                refine tk (i := 5) (v := ?v5) rfl (by kernel_rfl) (fun _ _ _ h => h) (Or.inl ⟨by rfl, ?h5⟩) hHeld ?_
                case h5 => (intro w hSw; (try dsimp only at hSw); have t0 := rblk_cell hSw.2.2.1 0; have t1 := rblk_cell hSw.2.2.1 1; have t2 := rblk_cell hSw.2.2.1 2; clear hSw; go_simp; (try with_reducible rfl))
                try simp only [ps]
                refine tk (i := 7) (v := ?v7) rfl (by kernel_rfl) (fun _ _ _ h => h) (Or.inl ⟨by rfl, ?h7⟩) hHeld ?_
                case h7 => (intro w hSw; (try dsimp only at hSw); clear hSw; go_simp; (try with_reducible rfl))
                try simp only [ps]
                refine tk (i := 8) (v := ?v8) rfl (by kernel_rfl) (fun _ _ _ h => h) (Or.inl ⟨by rfl, ?h8⟩) hHeld ?_
                case h8 => (intro w hSw; (try dsimp only at hSw); have t0 := rblk_cell hSw.2.1 0; have t1 := rblk_cell hSw.2.1 1; have t2 := rblk_cell hSw.2.1 2; clear hSw; go_simp; (try with_reducible rfl))
                try simp only [ps]
                refine tk (i := 9) (v := ?v9) rfl (by kernel_rfl) (fun _ _ _ h => h) (Or.inl ⟨by rfl, ?h9⟩) hHeld ?_
                case h9 => (intro w hSw; (try dsimp only at hSw); clear hSw; go_simp; (try with_reducible rfl))
                try simp only [ps]
                refine tk (i := 10) (v := ?v10) rfl (by kernel_rfl) (fun _ _ _ h => h) (Or.inl ⟨by rfl, ?h10⟩) hHeld ?_
                case h10 => (intro w hSw; (try dsimp only at hSw); have t0 := rblk_cell hSw.1 0; have t1 := rblk_cell hSw.1 1; have t2 := rblk_cell hSw.1 2; clear hSw; go_simp; (try with_reducible rfl))
                try simp only [ps]
                refine tk (i := 12) (v := ?v12) rfl (by kernel_rfl) (fun _ _ _ h => h) (Or.inl ⟨by rfl, ?h12⟩) hHeld ?_
                case h12 => (intro w hSw; (try dsimp only at hSw); have t0 := rblk_cell hSw.2.2.1 0; have t1 := rblk_cell hSw.2.2.1 1; have t2 := rblk_cell hSw.2.2.1 2; clear hSw; go_simp; (try with_reducible rfl))
                try simp only [ps]
                refine wpAnyH_ready (rs := [4, 15]) (by kernel_rfl) (by simp) ?_
                refine rc1 rfl (fun K hK => ?_) (rc1 rfl (fun K hK => ?_) AllReadyH.nil)
                · skip
                  go_simp
                  (go_at_call 102; ((with_reducible refine (HS0.out _ (HW.out _ (bt K2.out hHeld.2.2.2)).2.2).mono ?_); rintro e Wg1 ⟨a2, rfl, hc1, hc2, o2, hap2, hb⟩))
                  refine hK.out _ _ (SB.out _ (bt hHeld.2.2.2 hb)) (fun hH => ?_)
                  replace hHeld := hH
                  clear hK K hH
                  have hzWg1 := hb.size
                  clear hb
                  try simp only [ps]
                  refine wpAnyH_ready (rs := [6, 15]) (by kernel_rfl) (by simp) ?_
                  refine rc1 rfl (fun K hK => ?_) (rc1 rfl (fun K hK => ?_) AllReadyH.nil)
                  · skip
                    go_simp
                    (go_at_call 101; ((with_reducible refine (HD0.out _ _ _ ⟨hc1, hc2⟩ HC.out o2.rds (HW.out _ (bt K2.out hHeld.2.2.2)).2.1).mono ?_); rintro e Wg2 ⟨a3, rfl, hc3, hc4, o3, hap3, hb⟩))
                    refine hK.out _ _ (SB.out _ (bt hHeld.2.2.2 hb)) (fun hH => ?_)
                    replace hHeld := hH
                    clear hK K hH
                    have hzWg2 := hb.size
                    clear hb o2 hap2 hc1 hc2
                    try simp only [ps]
                    refine wpAnyH_ready (rs := [11, 15]) (by kernel_rfl) (by simp) ?_
                    refine rc1 rfl (fun K hK => ?_) (rc1 rfl (fun K hK => ?_) AllReadyH.nil)
                    · skip
                      go_simp
                      (go_at_call 102; ((with_reducible refine (HS1.out _ (HW.out _ (bt K2.out hHeld.2.2.2)).2.2).mono ?_); rintro e Wg3 ⟨a2, rfl, hc1, hc2, o2, hap2, hb⟩))
                      refine hK.out _ _ (SB.out _ (bt hHeld.2.2.2 hb)) (fun hH => ?_)
                      replace hHeld := hH
                      clear hK K hH
                      have hzWg3 := hb.size
                      replace o3 := o3.below hb
                      clear hb
                      try simp only [ps]
                      refine wpAnyH_ready (rs := [13, 15]) (by kernel_rfl) (by simp) ?_
                      refine rc1 rfl (fun K hK => ?_) (rc1 rfl (fun K hK => ?_) AllReadyH.nil)
                      · skip
                        go_simp
                        (go_at_call 101; ((with_reducible refine (HD1.out _ _ _ ⟨hc1, hc2⟩ HC.out o2.rds (HW.out _ (bt K2.out hHeld.2.2.2)).2.1).mono ?_); rintro e Wg4 ⟨a5, rfl, hc5, hc6, o5, hap5, hb⟩))
                        refine hK.out _ _ (SB.out _ (bt hHeld.2.2.2 hb)) (fun hH => ?_)
                        replace hHeld := hH
                        clear hK K hH
                        have hzWg4 := hb.size
                        replace o3 := o3.below hb
                        clear hb o2 hap2 hc1 hc2
                        try simp only [ps]
                        refine tk (i := 14) (v := .agg (r6 C D a3 a5)) rfl (by kernel_rfl) (fun _ _ _ h => h) (Or.inl ⟨by rfl, ?h14⟩) hHeld ?_
                        case h14 => (intro w hSw; (try dsimp only at hSw); clear hSw; go_simp; (try rfl))
                        try simp only [ps]
                        refine rd1 (i := 15) (by kernel_rfl) rfl (fun K hK => ?_)
                        go_simp
                        have P_x := heap_alloc_new Wg4 (.cells z6 31)
                        have hb := ba1 Wg4 (.cells z6 31)
                        have hgx := hHeld.2.2.2.size
                        refine hK.out _ _ (SB.out _ (bt hHeld.2.2.2 hb)) (fun hH => ?_)
                        replace hHeld := hH
                        clear hK K hH
                        have hzWg5 := rblk_lt P_x
                        replace o3 := o3.below hb
                        replace o5 := o5.below hb
                        clear hb
                        try simp only [ps]
                        generalize Wg4.alloc (.cells z6 31) = Wg5 at P_x hHeld hzWg5 o3 o5 ⊢
                        refine rd1 (i := 16) (by kernel_rfl) rfl (fun K hK => ?_)
                        have t0 := rblk_cell P_x 0
                        have q0 := rblk_free P_x 0
                        have t1 := rblk_cell P_x 1
                        have q1 := rblk_free P_x 1
                        have t2 := rblk_cell P_x 2
                        have q2 := rblk_free P_x 2
                        have t3 := rblk_cell P_x 3
                        have q3 := rblk_free P_x 3
                        have t4 := rblk_cell P_x 4
                        have q4 := rblk_free P_x 4
                        have t5 := rblk_cell P_x 5
                        have q5 := rblk_free P_x 5
                        go_simp
                        clear t0 q0 t1 q1 t2 q2 t3 q3 t4 q4 t5 q5
                        refine hK.out _ _ (SB.out _ (below_put6 hHeld.2.2.2 hgx _ _ _ _ _ _)) (fun hH => ?_)
                        replace hHeld := hH
                        clear hK K hH
                        replace P_x := put6_same P_x (.bool C.p) (.slice a3.A C.l.length a3.c) (.slice a3.D C.m.length a3.d) (.bool D.p) (.slice a5.A D.l.length a5.c) (.slice a5.D D.m.length a5.d)
                        replace o3 := owns_put6 (r := Wg4.heap.size) o3 (.inr (by omega)) (.bool C.p) (.slice a3.A C.l.length a3.c) (.slice a3.D C.m.length a3.d) (.bool D.p) (.slice a5.A D.l.length a5.c) (.slice a5.D D.m.length a5.d)
                        replace o5 := owns_put6 (r := Wg4.heap.size) o5 (.inr (by omega)) (.bool C.p) (.slice a3.A C.l.length a3.c) (.slice a3.D C.m.length a3.d) (.bool D.p) (.slice a5.A D.l.length a5.c) (.slice a5.D D.m.length a5.d)
                        have hzf := size_put6 Wg5 (Wg4.heap.size) (.bool C.p) (.slice a3.A C.l.length a3.c) (.slice a3.D C.m.length a3.d) (.bool D.p) (.slice a5.A D.l.length a5.c) (.slice a5.D D.m.length a5.d)
                        generalize (((((Wg5.setCell ⟨Wg4.heap.size, 0, none⟩ (.bool C.p)).setCell ⟨Wg4.heap.size, 1, none⟩ (.slice a3.A C.l.length a3.c)).setCell ⟨Wg4.heap.size, 2, none⟩ (.slice a3.D C.m.length a3.d)).setCell ⟨Wg4.heap.size, 3, none⟩ (.bool D.p)).setCell ⟨Wg4.heap.size, 4, none⟩ (.slice a5.A D.l.length a5.c)).setCell ⟨Wg4.heap.size, 5, none⟩ (.slice a5.D D.m.length a5.d) = Wf at P_x hHeld o3 o5 hzf ⊢
                        try simp only [ps]
                        refine wpAnyH_done (by kernel_rfl) ?_ _
                        go_wp2_with fail
                        go_meet
                        exact ⟨_, a3, a5, rfl, hgx, ⟨hc3, hc4, hc5, hc6⟩, P_x, Owns.app (o3.wide (by omega) (by omega)) (o5.wide (by omega) (by omega)), Aparts.app hap3 hap5 (mid_owns o3 o5 (by omega)) o5, hHeld.2.2.2⟩
                      · skip
                        go_simp
                        have P_x := heap_alloc_new Wg3 (.cells z6 31)
                        have hb := ba1 Wg3 (.cells z6 31)
                        have hgx := hHeld.2.2.2.size
                        refine hK.out _ _ (SB.out _ (bt hHeld.2.2.2 hb)) (fun hH => ?_)
                        replace hHeld := hH
                        clear hK K hH
                        have hzWg6 := rblk_lt P_x
                        replace o2 := o2.below hb
                        replace o3 := o3.below hb
                        clear hb
                        try simp only [ps]
                        generalize Wg3.alloc (.cells z6 31) = Wg6 at P_x hHeld hzWg6 o2 o3 ⊢
                        refine rd1 (i := 13) (by kernel_rfl) rfl (fun K hK => ?_)
                        go_simp
                        (go_at_call 101; ((with_reducible refine (HD1.out _ _ _ ⟨hc1, hc2⟩ HC.out o2.rds (HW.out _ (bt K2.out hHeld.2.2.2)).2.1).mono ?_); rintro e Wg7 ⟨a5, rfl, hc5, hc6, o5, hap5, hb⟩))
                        refine hK.out _ _ (SB.out _ (bt hHeld.2.2.2 hb)) (fun hH => ?_)
                        replace hHeld := hH
                        clear hK K hH
                        have hzWg7 := hb.size
                        replace P_x := rblk_below P_x hb
                        replace o3 := o3.below hb
                        clear hb o2 hap2 hc1 hc2
                        try simp only [ps]
                        refine tk (i := 14) (v := .agg (r6 C D a3 a5)) rfl (by kernel_rfl) (fun _ _ _ h => h) (Or.inl ⟨by rfl, ?h14⟩) hHeld ?_
                        case h14 => (intro w hSw; (try dsimp only at hSw); clear hSw; go_simp; (try rfl))
                        try simp only [ps]
                        refine rd1 (i := 16) (by kernel_rfl) rfl (fun K hK => ?_)
                        have t0 := rblk_cell P_x 0
                        have q0 := rblk_free P_x 0
                        have t1 := rblk_cell P_x 1
                        have q1 := rblk_free P_x 1
                        have t2 := rblk_cell P_x 2
                        have q2 := rblk_free P_x 2
                        have t3 := rblk_cell P_x 3
                        have q3 := rblk_free P_x 3
                        have t4 := rblk_cell P_x 4
                        have q4 := rblk_free P_x 4
                        have t5 := rblk_cell P_x 5
                        have q5 := rblk_free P_x 5
                        go_simp
                        clear t0 q0 t1 q1 t2 q2 t3 q3 t4 q4 t5 q5
                        refine hK.out _ _ (SB.out _ (below_put6 hHeld.2.2.2 hgx _ _ _ _ _ _)) (fun hH => ?_)
                        replace hHeld := hH
                        clear hK K hH
                        replace P_x := put6_same P_x (.bool C.p) (.slice a3.A C.l.length a3.c) (.slice a3.D C.m.length a3.d) (.bool D.p) (.slice a5.A D.l.length a5.c) (.slice a5.D D.m.length a5.d)
                        replace o3 := owns_put6 (r := Wg3.heap.size) o3 (.inr (by omega)) (.bool C.p) (.slice a3.A C.l.length a3.c) (.slice a3.D C.m.length a3.d) (.bool D.p) (.slice a5.A D.l.length a5.c) (.slice a5.D D.m.length a5.d)
                        replace o5 := owns_put6 (r := Wg3.heap.size) o5 (.inl (by omega)) (.bool C.p) (.slice a3.A C.l.length a3.c) (.slice a3.D C.m.length a3.d) (.bool D.p) (.slice a5.A D.l.length a5.c) (.slice a5.D D.m.length a5.d)
                        have hzf := size_put6 Wg7 (Wg3.heap.size) (.bool C.p) (.slice a3.A C.l.length a3.c) (.slice a3.D C.m.length a3.d) (.bool D.p) (.slice a5.A D.l.length a5.c) (.slice a5.D D.m.length a5.d)
                        generalize (((((Wg7.setCell ⟨Wg3.heap.size, 0, none⟩ (.bool C.p)).setCell ⟨Wg3.heap.size, 1, none⟩ (.slice a3.A C.l.length a3.c)).setCell ⟨Wg3.heap.size, 2, none⟩ (.slice a3.D C.m.length a3.d)).setCell ⟨Wg3.heap.size, 3, none⟩ (.bool D.p)).setCell ⟨Wg3.heap.size, 4, none⟩ (.slice a5.A D.l.length a5.c)).setCell ⟨Wg3.heap.size, 5, none⟩ (.slice a5.D D.m.length a5.d) = Wf at P_x hHeld o3 o5 hzf ⊢
                        try simp only [ps]
                        refine wpAnyH_done (by kernel_rfl) ?_ _
                        go_wp2_with fail
                        go_meet
                        exact ⟨_, a3, a5, rfl, hgx, ⟨hc3, hc4, hc5, hc6⟩, P_x, Owns.app (o3.wide (by omega) (by omega)) (o5.wide (by omega) (by omega)), Aparts.app hap3 hap5 (mid_owns o3 o5 (by omega)) o5, hHeld.2.2.2⟩
                    · skip
                      go_simp
                      have P_x := heap_alloc_new Wg2 (.cells z6 31)
                      have hb := ba1 Wg2 (.cells z6 31)
                      have hgx := hHeld.2.2.2.size
                      refine hK.out _ _ (SB.out _ (bt hHeld.2.2.2 hb)) (fun hH => ?_)
                      replace hHeld := hH
                      clear hK K hH
                      have hzWg8 := rblk_lt P_x
                      replace o3 := o3.below hb
                      clear hb
                      try simp only [ps]
                      generalize Wg2.alloc (.cells z6 31) = Wg8 at P_x hHeld hzWg8 o3 ⊢
                      refine rd1 (i := 11) (by kernel_rfl) rfl (fun K hK => ?_)
                      go_simp
                      (go_at_call 102; ((with_reducible refine (HS1.out _ (HW.out _ (bt K2.out hHeld.2.2.2)).2.2).mono ?_); rintro e Wg9 ⟨a2, rfl, hc1, hc2, o2, hap2, hb⟩))
                      refine hK.out _ _ (SB.out _ (bt hHeld.2.2.2 hb)) (fun hH => ?_)
                      replace hHeld := hH
                      clear hK K hH
                      have hzWg9 := hb.size
                      replace P_x := rblk_below P_x hb
                      replace o3 := o3.below hb
                      clear hb
                      try simp only [ps]
                      refine rd1 (i := 13) (by kernel_rfl) rfl (fun K hK => ?_)
                      go_simp
                      (go_at_call 101; ((with_reducible refine (HD1.out _ _ _ ⟨hc1, hc2⟩ HC.out o2.rds (HW.out _ (bt K2.out hHeld.2.2.2)).2.1).mono ?_); rintro e Wg10 ⟨a5, rfl, hc5, hc6, o5, hap5, hb⟩))
                      refine hK.out _ _ (SB.out _ (bt hHeld.2.2.2 hb)) (fun hH => ?_)
                      replace hHeld := hH
                      clear hK K hH
                      have hzWg10 := hb.size
                      replace P_x := rblk_below P_x hb
                      replace o3 := o3.below hb
                      clear hb o2 hap2 hc1 hc2
                      try simp only [ps]
                      refine tk (i := 14) (v := .agg (r6 C D a3 a5)) rfl (by kernel_rfl) (fun _ _ _ h => h) (Or.inl ⟨by rfl, ?h14⟩) hHeld ?_
                      case h14 => (intro w hSw; (try dsimp only at hSw); clear hSw; go_simp; (try rfl))
                      try simp only [ps]
                      refine rd1 (i := 16) (by kernel_rfl) rfl (fun K hK => ?_)
                      have t0 := rblk_cell P_x 0
                      have q0 := rblk_free P_x 0
                      have t1 := rblk_cell P_x 1
                      have q1 := rblk_free P_x 1
                      have t2 := rblk_cell P_x 2
                      have q2 := rblk_free P_x 2
                      have t3 := rblk_cell P_x 3
                      have q3 := rblk_free P_x 3
                      have t4 := rblk_cell P_x 4
                      have q4 := rblk_free P_x 4
                      have t5 := rblk_cell P_x 5
                      have q5 := rblk_free P_x 5
                      go_simp
                      clear t0 q0 t1 q1 t2 q2 t3 q3 t4 q4 t5 q5
                      refine hK.out _ _ (SB.out _ (below_put6 hHeld.2.2.2 hgx _ _ _ _ _ _)) (fun hH => ?_)
                      replace hHeld := hH
                      clear hK K hH
                      replace P_x := put6_same P_x (.bool C.p) (.slice a3.A C.l.length a3.c) (.slice a3.D C.m.length a3.d) (.bool D.p) (.slice a5.A D.l.length a5.c) (.slice a5.D D.m.length a5.d)
                      replace o3 := owns_put6 (r := Wg2.heap.size) o3 (.inr (by omega)) (.bool C.p) (.slice a3.A C.l.length a3.c) (.slice a3.D C.m.length a3.d) (.bool D.p) (.slice a5.A D.l.length a5.c) (.slice a5.D D.m.length a5.d)
                      replace o5 := owns_put6 (r := Wg2.heap.size) o5 (.inl (by omega)) (.bool C.p) (.slice a3.A C.l.length a3.c) (.slice a3.D C.m.length a3.d) (.bool D.p) (.slice a5.A D.l.length a5.c) (.slice a5.D D.m.length a5.d)
                      have hzf := size_put6 Wg10 (Wg2.heap.size) (.bool C.p) (.slice a3.A C.l.length a3.c) (.slice a3.D C.m.length a3.d) (.bool D.p) (.slice a5.A D.l.length a5.c) (.slice a5.D D.m.length a5.d)
                      generalize (((((Wg10.setCell ⟨Wg2.heap.size, 0, none⟩ (.bool C.p)).setCell ⟨Wg2.heap.size, 1, none⟩ (.slice a3.A C.l.length a3.c)).setCell ⟨Wg2.heap.size, 2, none⟩ (.slice a3.D C.m.length a3.d)).setCell ⟨Wg2.heap.size, 3, none⟩ (.bool D.p)).setCell ⟨Wg2.heap.size, 4, none⟩ (.slice a5.A D.l.length a5.c)).setCell ⟨Wg2.heap.size, 5, none⟩ (.slice a5.D D.m.length a5.d) = Wf at P_x hHeld o3 o5 hzf ⊢
                      try simp only [ps]
                      refine wpAnyH_done (by kernel_rfl) ?_ _
                      go_wp2_with fail
                      go_meet
                      exact ⟨_, a3, a5, rfl, hgx, ⟨hc3, hc4, hc5, hc6⟩, P_x, Owns.app (o3.wide (by omega) (by omega)) (o5.wide (by omega) (by omega)), Aparts.app hap3 hap5 (mid_owns o3 o5 (by omega)) o5, hHeld.2.2.2⟩
                  · skip
                    go_simp
                    have P_x := heap_alloc_new Wg1 (.cells z6 31)
                    have hb := ba1 Wg1 (.cells z6 31)
                    have hgx := hHeld.2.2.2.size
                    refine hK.out _ _ (SB.out _ (bt hHeld.2.2.2 hb)) (fun hH => ?_)
                    replace hHeld := hH
                    clear hK K hH
                    have hzWg11 := rblk_lt P_x
                    replace o2 := o2.below hb
                    clear hb
                    try simp only [ps]
                    generalize Wg1.alloc (.cells z6 31) = Wg11 at P_x hHeld hzWg11 o2 ⊢
                    refine rd1 (i := 6) (by kernel_rfl) rfl (fun K hK => ?_)
                    go_simp
                    (go_at_call 101; ((with_reducible refine (HD0.out _ _ _ ⟨hc1, hc2⟩ HC.out o2.rds (HW.out _ (bt K2.out hHeld.2.2.2)).2.1).mono ?_); rintro e Wg12 ⟨a3, rfl, hc3, hc4, o3, hap3, hb⟩))
                    refine hK.out _ _ (SB.out _ (bt hHeld.2.2.2 hb)) (fun hH => ?_)
                    replace hHeld := hH
                    clear hK K hH
                    have hzWg12 := hb.size
                    replace P_x := rblk_below P_x hb
                    clear hb o2 hap2 hc1 hc2
                    try simp only [ps]
                    refine rd1 (i := 11) (by kernel_rfl) rfl (fun K hK => ?_)
                    go_simp
                    (go_at_call 102; ((with_reducible refine (HS1.out _ (HW.out _ (bt K2.out hHeld.2.2.2)).2.2).mono ?_); rintro e Wg13 ⟨a2, rfl, hc1, hc2, o2, hap2, hb⟩))
                    refine hK.out _ _ (SB.out _ (bt hHeld.2.2.2 hb)) (fun hH => ?_)
                    replace hHeld := hH
                    clear hK K hH
                    have hzWg13 := hb.size
                    replace P_x := rblk_below P_x hb
                    replace o3 := o3.below hb
                    clear hb
                    try simp only [ps]
                    refine rd1 (i := 13) (by kernel_rfl) rfl (fun K hK => ?_)
                    go_simp
                    (go_at_call 101; ((with_reducible refine (HD1.out _ _ _ ⟨hc1, hc2⟩ HC.out o2.rds (HW.out _ (bt K2.out hHeld.2.2.2)).2.1).mono ?_); rintro e Wg14 ⟨a5, rfl, hc5, hc6, o5, hap5, hb⟩))
                    refine hK.out _ _ (SB.out _ (bt hHeld.2.2.2 hb)) (fun hH => ?_)
                    replace hHeld := hH
                    clear hK K hH
                    have hzWg14 := hb.size
                    replace P_x := rblk_below P_x hb
                    replace o3 := o3.below hb
                    clear hb o2 hap2 hc1 hc2
                    try simp only [ps]
                    refine tk (i := 14) (v := .agg (r6 C D a3 a5)) rfl (by kernel_rfl) (fun _ _ _ h => h) (Or.inl ⟨by rfl, ?h14⟩) hHeld ?_
                    case h14 => (intro w hSw; (try dsimp only at hSw); clear hSw; go_simp; (try rfl))
                    try simp only [ps]
                    refine rd1 (i := 16) (by kernel_rfl) rfl (fun K hK => ?_)
                    have t0 := rblk_cell P_x 0
                    have q0 := rblk_free P_x 0
                    have t1 := rblk_cell P_x 1
                    have q1 := rblk_free P_x 1
                    have t2 := rblk_cell P_x 2
                    have q2 := rblk_free P_x 2
                    have t3 := rblk_cell P_x 3
                    have q3 := rblk_free P_x 3
                    have t4 := rblk_cell P_x 4
                    have q4 := rblk_free P_x 4
                    have t5 := rblk_cell P_x 5
                    have q5 := rblk_free P_x 5
                    go_simp
                    clear t0 q0 t1 q1 t2 q2 t3 q3 t4 q4 t5 q5
                    refine hK.out _ _ (SB.out _ (below_put6 hHeld.2.2.2 hgx _ _ _ _ _ _)) (fun hH => ?_)
                    replace hHeld := hH
                    clear hK K hH
                    replace P_x := put6_same P_x (.bool C.p) (.slice a3.A C.l.length a3.c) (.slice a3.D C.m.length a3.d) (.bool D.p) (.slice a5.A D.l.length a5.c) (.slice a5.D D.m.length a5.d)
                    replace o3 := owns_put6 (r := Wg1.heap.size) o3 (.inl (by omega)) (.bool C.p) (.slice a3.A C.l.length a3.c) (.slice a3.D C.m.length a3.d) (.bool D.p) (.slice a5.A D.l.length a5.c) (.slice a5.D D.m.length a5.d)
                    replace o5 := owns_put6 (r := Wg1.heap.size) o5 (.inl (by omega)) (.bool C.p) (.slice a3.A C.l.length a3.c) (.slice a3.D C.m.length a3.d) (.bool D.p) (.slice a5.A D.l.length a5.c) (.slice a5.D D.m.length a5.d)
                    have hzf := size_put6 Wg14 (Wg1.heap.size) (.bool C.p) (.slice a3.A C.l.length a3.c) (.slice a3.D C.m.length a3.d) (.bool D.p) (.slice a5.A D.l.length a5.c) (.slice a5.D D.m.length a5.d)
                    generalize (((((Wg14.setCell ⟨Wg1.heap.size, 0, none⟩ (.bool C.p)).setCell ⟨Wg1.heap.size, 1, none⟩ (.slice a3.A C.l.length a3.c)).setCell ⟨Wg1.heap.size, 2, none⟩ (.slice a3.D C.m.length a3.d)).setCell ⟨Wg1.heap.size, 3, none⟩ (.bool D.p)).setCell ⟨Wg1.heap.size, 4, none⟩ (.slice a5.A D.l.length a5.c)).setCell ⟨Wg1.heap.size, 5, none⟩ (.slice a5.D D.m.length a5.d) = Wf at P_x hHeld o3 o5 hzf ⊢
                    try simp only [ps]
                    refine wpAnyH_done (by kernel_rfl) ?_ _
                    go_wp2_with fail
                    go_meet
                    exact ⟨_, a3, a5, rfl, hgx, ⟨hc3, hc4, hc5, hc6⟩, P_x, Owns.app (o3.wide (by omega) (by omega)) (o5.wide (by omega) (by omega)), Aparts.app hap3 hap5 (mid_owns o3 o5 (by omega)) o5, hHeld.2.2.2⟩
                · skip
                  go_simp
                  have P_x := heap_alloc_new Wd (.cells z6 31)
                  have hb := ba1 Wd (.cells z6 31)
                  have hgx := hHeld.2.2.2.size
                  refine hK.out _ _ (SB.out _ (bt hHeld.2.2.2 hb)) (fun hH => ?_)
                  replace hHeld := hH
                  clear hK K hH
                  have hzWg15 := rblk_lt P_x
                  clear hb
                  try simp only [ps]
                  generalize Wd.alloc (.cells z6 31) = Wg15 at P_x hHeld hzWg15  ⊢
                  refine rd1 (i := 4) (by kernel_rfl) rfl (fun K hK => ?_)
                  go_simp
                  (go_at_call 102; ((with_reducible refine (HS0.out _ (HW.out _ (bt K2.out hHeld.2.2.2)).2.2).mono ?_); rintro e Wg16 ⟨a2, rfl, hc1, hc2, o2, hap2, hb⟩))
                  refine hK.out _ _ (SB.out _ (bt hHeld.2.2.2 hb)) (fun hH => ?_)
                  replace hHeld := hH
                  clear hK K hH
                  have hzWg16 := hb.size
                  replace P_x := rblk_below P_x hb
                  clear hb
                  try simp only [ps]
                  refine rd1 (i := 6) (by kernel_rfl) rfl (fun K hK => ?_)
                  go_simp
                  (go_at_call 101; ((with_reducible refine (HD0.out _ _ _ ⟨hc1, hc2⟩ HC.out o2.rds (HW.out _ (bt K2.out hHeld.2.2.2)).2.1).mono ?_); rintro e Wg17 ⟨a3, rfl, hc3, hc4, o3, hap3, hb⟩))
                  refine hK.out _ _ (SB.out _ (bt hHeld.2.2.2 hb)) (fun hH => ?_)
                  replace hHeld := hH
                  clear hK K hH
                  have hzWg17 := hb.size
                  replace P_x := rblk_below P_x hb
                  clear hb o2 hap2 hc1 hc2
                  try simp only [ps]
                  refine rd1 (i := 11) (by kernel_rfl) rfl (fun K hK => ?_)
                  go_simp
                  (go_at_call 102; ((with_reducible refine (HS1.out _ (HW.out _ (bt K2.out hHeld.2.2.2)).2.2).mono ?_); rintro e Wg18 ⟨a2, rfl, hc1, hc2, o2, hap2, hb⟩))
                  refine hK.out _ _ (SB.out _ (bt hHeld.2.2.2 hb)) (fun hH => ?_)
                  replace hHeld := hH
                  clear hK K hH
                  have hzWg18 := hb.size
                  replace P_x := rblk_below P_x hb
                  replace o3 := o3.below hb
                  clear hb
                  try simp only [ps]
                  refine rd1 (i := 13) (by kernel_rfl) rfl (fun K hK => ?_)
                  go_simp
                  (go_at_call 101; ((with_reducible refine (HD1.out _ _ _ ⟨hc1, hc2⟩ HC.out o2.rds (HW.out _ (bt K2.out hHeld.2.2.2)).2.1).mono ?_); rintro e Wg19 ⟨a5, rfl, hc5, hc6, o5, hap5, hb⟩))
                  refine hK.out _ _ (SB.out _ (bt hHeld.2.2.2 hb)) (fun hH => ?_)
                  replace hHeld := hH
                  clear hK K hH
                  have hzWg19 := hb.size
                  replace P_x := rblk_below P_x hb
                  replace o3 := o3.below hb
                  clear hb o2 hap2 hc1 hc2
                  try simp only [ps]
                  refine tk (i := 14) (v := .agg (r6 C D a3 a5)) rfl (by kernel_rfl) (fun _ _ _ h => h) (Or.inl ⟨by rfl, ?h14⟩) hHeld ?_
                  case h14 => (intro w hSw; (try dsimp only at hSw); clear hSw; go_simp; (try rfl))
                  try simp only [ps]
                  refine rd1 (i := 16) (by kernel_rfl) rfl (fun K hK => ?_)
                  have t0 := rblk_cell P_x 0
                  have q0 := rblk_free P_x 0
                  have t1 := rblk_cell P_x 1
                  have q1 := rblk_free P_x 1
                  have t2 := rblk_cell P_x 2
                  have q2 := rblk_free P_x 2
                  have t3 := rblk_cell P_x 3
                  have q3 := rblk_free P_x 3
                  have t4 := rblk_cell P_x 4
                  have q4 := rblk_free P_x 4
                  have t5 := rblk_cell P_x 5
                  have q5 := rblk_free P_x 5
                  go_simp
                  clear t0 q0 t1 q1 t2 q2 t3 q3 t4 q4 t5 q5
                  refine hK.out _ _ (SB.out _ (below_put6 hHeld.2.2.2 hgx _ _ _ _ _ _)) (fun hH => ?_)
                  replace hHeld := hH
                  clear hK K hH
                  replace P_x := put6_same P_x (.bool C.p) (.slice a3.A C.l.length a3.c) (.slice a3.D C.m.length a3.d) (.bool D.p) (.slice a5.A D.l.length a5.c) (.slice a5.D D.m.length a5.d)
                  replace o3 := owns_put6 (r := Wd.heap.size) o3 (.inl (by omega)) (.bool C.p) (.slice a3.A C.l.length a3.c) (.slice a3.D C.m.length a3.d) (.bool D.p) (.slice a5.A D.l.length a5.c) (.slice a5.D D.m.length a5.d)
                  replace o5 := owns_put6 (r := Wd.heap.size) o5 (.inl (by omega)) (.bool C.p) (.slice a3.A C.l.length a3.c) (.slice a3.D C.m.length a3.d) (.bool D.p) (.slice a5.A D.l.length a5.c) (.slice a5.D D.m.length a5.d)
                  have hzf := size_put6 Wg19 (Wd.heap.size) (.bool C.p) (.slice a3.A C.l.length a3.c) (.slice a3.D C.m.length a3.d) (.bool D.p) (.slice a5.A D.l.length a5.c) (.slice a5.D D.m.length a5.d)
                  generalize (((((Wg19.setCell ⟨Wd.heap.size, 0, none⟩ (.bool C.p)).setCell ⟨Wd.heap.size, 1, none⟩ (.slice a3.A C.l.length a3.c)).setCell ⟨Wd.heap.size, 2, none⟩ (.slice a3.D C.m.length a3.d)).setCell ⟨Wd.heap.size, 3, none⟩ (.bool D.p)).setCell ⟨Wd.heap.size, 4, none⟩ (.slice a5.A D.l.length a5.c)).setCell ⟨Wd.heap.size, 5, none⟩ (.slice a5.D D.m.length a5.d) = Wf at P_x hHeld o3 o5 hzf ⊢
                  try simp only [ps]
                  refine wpAnyH_done (by kernel_rfl) ?_ _
                  go_wp2_with fail
                  go_meet
                  exact ⟨_, a3, a5, rfl, hgx, ⟨hc3, hc4, hc5, hc6⟩, P_x, Owns.app (o3.wide (by omega) (by omega)) (o5.wide (by omega) (by omega)), Aparts.app hap3 hap5 (mid_owns o3 o5 (by omega)) o5, hHeld.2.2.2⟩
              case rest =>
                obtain ⟨g_x, a3, a5, rfl, hlo_x, hcx, P_x, o3, hap3, hb⟩ := hcut
                obtain ⟨W9, hWn⟩ : ∃ W', W' = wc := ⟨_, rfl⟩
                subst hWn
                have k9 := bt hw hb
                clear SB hb hw
                have t0 := rblk_cell P_x 0
                have t1 := rblk_cell P_x 1
                have t2 := rblk_cell P_x 2
                have t3 := rblk_cell P_x 3
                have t4 := rblk_cell P_x 4
                have t5 := rblk_cell P_x 5
                go_wp2_with fail
                clear t0 t1 t2 t3 t4 t5
                refine (HV.out a3 a5 _ o3.rds).mono ?_
                rintro e W10 ⟨rfl, hb⟩
                replace k9 := bt k9 hb
                replace P_x := rblk_below P_x hb
                replace o3 := (o3.below hb).wide (Nat.le_refl _) hb.size
                have k10 := bt kr k9
                clear hb
                have HT : Hid (VL[j]? = some vb) := Lib.hid HJ.out.2
                cases vb with
                | false =>
                  have HX := Lib.hid (made_none w.heap.size (GN.out j HT.out) (HW.out _ k10).2.2)
                  clear k9 k10 P_x o3 hap3 hcx kr
                  go_wp2
                  go_ret
                  exact HX.out
                | true =>
                  have t0 := rblk_cell P_x 0
                  have t1 := rblk_cell P_x 1
                  have t2 := rblk_cell P_x 2
                  have t3 := rblk_cell P_x 3
                  have t4 := rblk_cell P_x 4
                  have t5 := rblk_cell P_x 5
                  have hsz := k9.size
                  have hsz2 := k10.size
                  go_wp2_with (refine append_pt rfl (.tmp 58) (.tmp 60) rfl W2.heap.size j W2.heap.size wr.heap.size W10.heap.size (.slice A j c') M ⟨C, D, a3, a5⟩ W10 rfl rfl (own6_below HR.out.1 k9) (by omega) hsz2 (HR.out.2.1.below k9) (o3.wide hwx (Nat.le_refl _)) HR.out.2.2 hap3 HVZ.out kr.size hsz (Nat.le_refl _) ?_; intro v' w' hown' hb' hO' hap')
                  clear t0 t1 t2 t3 t4 t5
                  obtain ⟨A', c2, rfl⟩ := own_form hown'
                  have HX := Lib.hid (And.intro hown' (And.intro hO' (And.intro hap' (And.intro hcx (k10.trans hb')))))
                  clear hown' hO' hap' hcx hb' k9 k10 P_x o3 hap3 kr
                  go_wp2
                  go_roundw
                  case rel =>
                    refine ⟨j + 1, M ++ [⟨C, D, a3, a5⟩], A', c2, by omega, by go_num, rfl, by rw [List.length_append, HF.out.1]; rfl, HX.out.1, ?_, ?_, cap_app (q := ⟨C, D, a3, a5⟩) HF.out.2.2.1 HX.out.2.2.2.1, HX.out.2.1, HX.out.2.2.1, HX.out.2.2.2.2⟩
                    · rw [dat_app, HF.out.2.1, List.take_add_one, HJ.out.1]; rfl
                    · intro i hi'
                      rcases Nat.lt_or_ge i j with h | h
                      · exact HF.out.2.2.2 i h
                      · obtain rfl : i = j := by omega
                        exact HT.out
                  case measure => simp [intOf]; omega
        · skip
          obtain rfl : j = 3 := by omega
          have HX := Lib.hid (made_list (L := GL) HR.out.1 HZ.out HZ.out HF.out.1 (HF.out.2.1.trans ((List.take_of_length_le (by rw [GL3.out]; omega)).trans (GY.out HF.out.2.2.2).symm)) HF.out.2.2.1 HR.out.2.1 HR.out.2.2 (HW.out _ kr).2.2)
          clear kr
          go_wp2
          go_ret
          exact HX.out
end Go.Proofs.YtppdholccpgcpaaGreat
