/-
  Triangles: areas of three points in bundled words; what the program's and the model's functions of points answer in these words.
-/
import Derived.Test.YtppdholccpgcpaaGreatLawP
import Derived.Test.YtppdholccpgcpaaGreatSgR
import Derived.Test.YtppdholccpgcpaaGreatSl
import Derived.Test.YtppdholccpgcpaaGreatPtL
namespace Go.Proofs.YtppdholccpgcpaaGreat
open Go.ChangeShapes Go.WideShapes Go.ChangeAt Go.RowKit
set_option linter.unusedVariables false
set_option linter.unusedSimpArgs false
set_option maxRecDepth 4000
def areaO (x y u v s t : Option Rat) : Option Rat := binQ subQ (binQ mulQ (bothX (binQ subQ u x) (binQ subQ v y)) (bothY (binQ subQ s x) (binQ subQ t y))) (binQ mulQ (bothY (binQ subQ u x) (binQ subQ v y)) (bothX (binQ subQ s x) (binQ subQ t y)))
def aV (p q r : PV) : Option Rat := areaO (valx p.x) (valx p.y) (valx q.x) (valx q.y) (valx r.x) (valx r.y)
theorem aV_fit (p q r : PV) : FitO (aV p q r) := subO_fit _ _
def okP (p : PV) : Bool := okx p.x && okx p.y
theorem aV_no {p q r : PV} (h : (okP p && (okP q && okP r)) = false) : aV p q r = none := area_no h
def Nice (x : R3) : Prop := x = ofO (valx x)
def NiceP (p : PV) : Prop := Nice p.x ∧ Nice p.y
theorem nice_ok {x : R3} (h : okx x = true) : Nice x := by
  obtain ⟨r, e, hx, _⟩ := valx_yes h
  unfold Nice; rw [e]; exact hx
theorem nice_ofO {o : Option Rat} (h : FitO o) : Nice (ofO o) := by unfold Nice; rw [valx_ofO h]
theorem nice_no : Nice noR := nice_ofO fitO_none
theorem niceP_ok {p : PV} (h : okP p = true) : NiceP p := by
  unfold okP at h
  rw [Bool.and_eq_true] at h
  exact ⟨nice_ok h.1, nice_ok h.2⟩
theorem niceP_0 : NiceP PV0 := ⟨nice_no, nice_no⟩
theorem rds_0 (w : World) : Rds w (prow PV0) := (noRows 0 0 w noA noA).rds
def properB : List PV → Bool
  | [p, q, r] => decide (0 < sgnO (aV p q r))
  | _ => false
theorem properB_three {L : List PV} (h : properB L = true) : ∃ p q r, L = [p, q, r] ∧ decide (0 < sgnO (aV p q r)) = true ∧ okP p = true ∧ okP q = true ∧ okP r = true := by
  match L, h with
  | [p, q, r], h =>
    refine ⟨p, q, r, rfl, h, ?_⟩
    cases hk : okP p && (okP q && okP r) with
    | true => rw [Bool.and_eq_true, Bool.and_eq_true] at hk; exact hk
    | false =>
      have h' : decide (0 < sgnO (aV p q r)) = true := h
      rw [aV_no hk] at h'
      cases h'
theorem properB_len {L : List PV} (h : L.length ≠ 3) : properB L = false := by
  match L, h with
  | [], _ => rfl
  | [_], _ => rfl
  | [_, _], _ => rfl
  | [_, _, _], h => exact absurd rfl h
  | _ :: _ :: _ :: _ :: _, _ => rfl
theorem three_of_len {L : List PV} (h : L.length = 3) : ∃ p q r, L = [p, q, r] := by
  match L, h with
  | [p, q, r], _ => exact ⟨p, q, r, rfl⟩
def tri1 (L : List PV) : PV := if properB L then L.getD 0 PV0 else PV0
def tri2 (L : List PV) : PV := if properB L then L.getD 1 PV0 else PV0
def tri3 (L : List PV) : PV := if properB L then L.getD 2 PV0 else PV0
theorem tri_yes {p q r : PV} (h : properB [p, q, r] = true) : tri1 [p, q, r] = p ∧ tri2 [p, q, r] = q ∧ tri3 [p, q, r] = r := by
  unfold tri1 tri2 tri3; rw [if_pos h, if_pos h, if_pos h]; exact ⟨rfl, rfl, rfl⟩
theorem tri_no {L : List PV} (h : properB L = false) : tri1 L = PV0 ∧ tri2 L = PV0 ∧ tri3 L = PV0 := by
  unfold tri1 tri2 tri3; rw [h]; exact ⟨rfl, rfl, rfl⟩
def TriOk (w : World) (p q r : PV) : Prop := (NiceP p ∧ NiceP q ∧ NiceP r) ∧ Rds w (prow p) ∧ Rds w (prow q) ∧ Rds w (prow r)
theorem tri_ok {w : World} {L : List PV} (h : Rds w (lrow L)) : TriOk w (tri1 L) (tri2 L) (tri3 L) := by
  cases hp : properB L with
  | false =>
    obtain ⟨e1, e2, e3⟩ := tri_no hp
    rw [e1, e2, e3]
    exact ⟨⟨niceP_0, niceP_0, niceP_0⟩, rds_0 w, rds_0 w, rds_0 w⟩
  | true =>
    obtain ⟨p, q, r, rfl, _, k1, k2, k3⟩ := properB_three hp
    obtain ⟨e1, e2, e3⟩ := tri_yes hp
    rw [e1, e2, e3]
    exact ⟨⟨niceP_ok k1, niceP_ok k2, niceP_ok k3⟩, h.at (i := 0) rfl, h.at (i := 1) rfl, h.at (i := 2) rfl⟩
theorem TriOk.below {w w' : World} {p q r : PV} (h : TriOk w p q r) (hb : Below w.heap.size w w') : TriOk w' p q r := ⟨h.1, h.2.1.below hb, h.2.2.1.below hb, h.2.2.2.below hb⟩
def aT (L : List PV) : Option Rat := aV (tri1 L) (tri2 L) (tri3 L)
theorem aT_yes {p q r : PV} (h : properB [p, q, r] = true) : aT [p, q, r] = aV p q r := by
  obtain ⟨e1, e2, e3⟩ := tri_yes h
  unfold aT; rw [e1, e2, e3]
theorem RdS.tri {w : World} {A : Option Addr} {p q r : PV} (h : RdS w A (flat [p, q, r])) : ∃ g o, A = some ⟨g, o, none⟩ ∧ g < w.heap.size ∧ (w.cell? ⟨g, o, none⟩ = some (.bool p.x.p) ∧ w.cell? ⟨g, o + 1, none⟩ = some (.slice p.a.A p.x.l.length p.a.c) ∧ w.cell? ⟨g, o + 2, none⟩ = some (.slice p.a.D p.x.m.length p.a.d) ∧ w.cell? ⟨g, o + 3, none⟩ = some (.bool p.y.p) ∧ w.cell? ⟨g, o + 4, none⟩ = some (.slice p.b.A p.y.l.length p.b.c) ∧ w.cell? ⟨g, o + 5, none⟩ = some (.slice p.b.D p.y.m.length p.b.d) ∧ w.cell? ⟨g, o + 6, none⟩ = some (.bool q.x.p) ∧ w.cell? ⟨g, o + 7, none⟩ = some (.slice q.a.A q.x.l.length q.a.c) ∧ w.cell? ⟨g, o + 8, none⟩ = some (.slice q.a.D q.x.m.length q.a.d) ∧ w.cell? ⟨g, o + 9, none⟩ = some (.bool q.y.p) ∧ w.cell? ⟨g, o + 10, none⟩ = some (.slice q.b.A q.y.l.length q.b.c) ∧ w.cell? ⟨g, o + 11, none⟩ = some (.slice q.b.D q.y.m.length q.b.d) ∧ w.cell? ⟨g, o + 12, none⟩ = some (.bool r.x.p) ∧ w.cell? ⟨g, o + 13, none⟩ = some (.slice r.a.A r.x.l.length r.a.c) ∧ w.cell? ⟨g, o + 14, none⟩ = some (.slice r.a.D r.x.m.length r.a.d) ∧ w.cell? ⟨g, o + 15, none⟩ = some (.bool r.y.p) ∧ w.cell? ⟨g, o + 16, none⟩ = some (.slice r.b.A r.y.l.length r.b.c) ∧ w.cell? ⟨g, o + 17, none⟩ = some (.slice r.b.D r.y.m.length r.b.d)) := by
  obtain ⟨g, o, ha, hg, hc⟩ := h.block (by rw [flat_length]; show 0 < 3 * 6; omega)
  have C : ∀ k, k < 18 → w.cell? ⟨g, o + k, none⟩ = (flat [p, q, r])[k]? := fun k hk => hc k (by rw [flat_length]; exact hk)
  exact ⟨g, o, ha, hg, C 0 (by omega), C 1 (by omega), C 2 (by omega), C 3 (by omega), C 4 (by omega), C 5 (by omega), C 6 (by omega), C 7 (by omega), C 8 (by omega), C 9 (by omega), C 10 (by omega), C 11 (by omega), C 12 (by omega), C 13 (by omega), C 14 (by omega), C 15 (by omega), C 16 (by omega), C 17 (by omega)⟩
theorem impl_areaV (p q r : PV) (w : World) (lp : LenP p) (lq : LenP q) (lr : LenP r) (hp : Rds w (prow p)) (hq : Rds w (prow q)) (hr : Rds w (prow r)) :
    Calls Tryz.prog 71 #[.agg (p6 p), .agg (p6 q), .agg (p6 r)] w (MadeQ w.heap.size (ofO (aV p q r)) w) :=
  impl_areaP p.x p.y q.x q.y r.x r.y p.a p.b q.a q.b r.a r.b w lp.1.1 lp.1.2 lp.2.1 lp.2.2 lq.1.1 lq.1.2 lq.2.1 lq.2.2 lr.1.1 lr.1.2 lr.2.1 lr.2.2 hp hq hr
theorem spec_areaV (p q r : PV) (w : World) (lp : LenP p) (lq : LenP q) (lr : LenP r) (kp : CapP p) (kq : CapP q) (kr : CapP r) (hp : Rds w (prow p)) (hq : Rds w (prow q)) (hr : Rds w (prow r)) :
    Calls Tryz.prog 100 #[.agg (p6 p), .agg (p6 q), .agg (p6 r)] w (MadeQ w.heap.size (ofO (aV p q r)) w) :=
  spec_areaP p.x p.y q.x q.y r.x r.y p.a p.b q.a q.b r.a r.b w lp.1.1 lp.1.2 lp.2.1 lp.2.2 lq.1.1 lq.1.2 lq.2.1 lq.2.2 lr.1.1 lr.1.2 lr.2.1 lr.2.2 ⟨kp.1, kp.2.1⟩ kp.2.2 ⟨kq.1, kq.2.1⟩ kq.2.2 ⟨kr.1, kr.2.1⟩ kr.2.2 hp hq hr
theorem areaV (p q r : PV) (w : World) (h : TriOk w p q r) :
    Calls Tryz.prog 136 #[.agg (p6 p), .agg (p6 q), .agg (p6 r)] w (MadeQ w.heap.size (ofO (aV p q r)) w) := by
  obtain ⟨⟨n1, n2, n3⟩, hp, hq, hr⟩ := h
  obtain ⟨px, py, pa, pb⟩ := p
  obtain ⟨qx, qy, qa, qb⟩ := q
  obtain ⟨rx, ry, ra, rb⟩ := r
  obtain ⟨e1, e2⟩ := n1
  obtain ⟨e3, e4⟩ := n2
  obtain ⟨e5, e6⟩ := n3
  unfold Nice at e1 e2 e3 e4 e5 e6
  unfold prow at hp hq hr
  dsimp only at *
  have K := areaP_r (valx px) (valx py) (valx qx) (valx qy) (valx rx) (valx ry) pa pb qa qb ra rb w (FitO.val _) (FitO.val _) (FitO.val _) (FitO.val _) (FitO.val _) (FitO.val _) (by rw [← e1, ← e2]; exact hp) (by rw [← e3, ← e4]; exact hq) (by rw [← e5, ← e6]; exact hr)
  rw [← e1, ← e2, ← e3, ← e4, ← e5, ← e6] at K
  exact K
theorem spec_validV (p : PV) (w : World) (lp : LenP p) (hp : Rds w (prow p)) :
    Calls Tryz.prog 103 #[.agg (p6 p)] w (fun e w' => e = .returned (.bool (okP p)) ∧ Below w.heap.size w w') :=
  spec_validP p.x p.y p.a p.b w lp.1.1 lp.1.2 lp.2.1 lp.2.2 hp
end Go.Proofs.YtppdholccpgcpaaGreat
