/-
  Points with small coordinates and their areas: plain mathematics over Lean's own rationals.
-/
import Derived.Test.YtppdholccpgcpaaGreatPtH
import Derived.Test.YtppdholccpgcpaaGreatTriC
import Derived.Test.YtppdholccpgcpaaGreatGrB
import Derived.Test.YtppdholccpgcpaaGreatInV
import Derived.Test.YtppdholccpgcpaaGreatSl
import Derived.Test.YtppdholccpgcpaaGreatStore
import Derived.Test.YtppdholccpgcpaaGreatTri
import Derived.Test.YtppdholccpgcpaaGreatLawP
import Derived.Test.YtppdholccpgcpaaGreatTriS
import Derived.Test.YtppdholccpgcpaaGreatPkH
import Derived.Test.YtppdholccpgcpaaGreatPkI
namespace Go.Proofs.YtppdholccpgcpaaGreat
open Go.ChangeShapes Go.WideShapes Go.ChangeAt Go.RowKit
set_option linter.unusedVariables false
set_option linter.unusedSimpArgs false
set_option maxRecDepth 4000
def AtP (k : Nat) (p : PV) (x y : Rat) : Prop := valx p.x = some x ∧ valx p.y = some y ∧ Lg k x ∧ Lg k y
theorem addS {k m : Nat} {x y : Rat} (hx : Lg k x) (hy : Lg m y) (h : k + m + 1 ≤ 216) : binQ addQ (some x) (some y) = some (x + y) := (hx.add hy).cut h
theorem subS {k m : Nat} {x y : Rat} (hx : Lg k x) (hy : Lg m y) (h : k + m + 1 ≤ 216) : binQ subQ (some x) (some y) = some (x - y) := (hx.sub hy).cut h
theorem mulS {k m : Nat} {x y : Rat} (hx : Lg k x) (hy : Lg m y) (h : k + m ≤ 216) : binQ mulQ (some x) (some y) = some (x * y) := (hx.mul hy).cut h
theorem both_some (x y : Rat) : bothX (some x) (some y) = some x ∧ bothY (some x) (some y) = some y := ⟨rfl, rfl⟩
def det (a b c d e f : Rat) : Rat := (c - a) * (f - b) - (d - b) * (e - a)
theorem det_lg {k : Nat} {a b c d e f : Rat} (ha : Lg k a) (hb : Lg k b) (hc : Lg k c) (hd : Lg k d) (he : Lg k e) (hf : Lg k f) : Lg (8 * k + 5) (det a b c d e f) :=
  (((hc.sub ha).mul (hf.sub hb)).sub ((hd.sub hb).mul (he.sub ha))).more (by omega)
theorem aV_at {k : Nat} {p q r : PV} {a b c d e f : Rat} (hp : AtP k p a b) (hq : AtP k q c d) (hr : AtP k r e f) (hk : 8 * k + 5 ≤ 216) : aV p q r = some (det a b c d e f) := by
  obtain ⟨p1, p2, p3, p4⟩ := hp
  obtain ⟨q1, q2, q3, q4⟩ := hq
  obtain ⟨r1, r2, r3, r4⟩ := hr
  unfold aV areaO
  rw [p1, p2, q1, q2, r1, r2, subS q3 p3 (by omega), subS q4 p4 (by omega), subS r3 p3 (by omega), subS r4 p4 (by omega), (both_some _ _).1, (both_some _ _).2, (both_some _ _).1, (both_some _ _).2,
    mulS (q3.sub p3) (r4.sub p4) (by omega), mulS (q4.sub p4) (r3.sub p3) (by omega), subS ((q3.sub p3).mul (r4.sub p4)) ((q4.sub p4).mul (r3.sub p3)) (by omega)]
  rfl
theorem num_pos {r : Rat} : 0 < r.num ↔ 0 < r := by
  rw [Rat.lt_iff]; simp
theorem sgn_yes {r : Rat} (h : 0 < r) : sgnO (some r) = 1 := by
  have h1 := num_pos.2 h
  show cmpZ r.num 0 = 1
  unfold cmpZ
  rw [if_neg (by omega), if_pos h1]
theorem sgn_no {r : Rat} (h : r ≤ 0) : ¬ 0 < sgnO (some r) := by
  have h1 : ¬ 0 < r.num := fun k => absurd (num_pos.1 k) (Rat.not_lt.2 h)
  show ¬ 0 < cmpZ r.num 0
  unfold cmpZ
  rw [if_neg h1]
  split <;> omega
theorem proper_at {k : Nat} {p q r : PV} {a b c d e f : Rat} (hp : AtP k p a b) (hq : AtP k q c d) (hr : AtP k r e f) (hk : 8 * k + 5 ≤ 216) : properB [p, q, r] = decide (0 < det a b c d e f) := by
  show decide (0 < sgnO (aV p q r)) = _
  rw [aV_at hp hq hr hk]
  by_cases h : 0 < det a b c d e f
  · rw [sgn_yes h, decide_eq_true h]; rfl
  · rw [decide_eq_false h, decide_eq_false (sgn_no (Rat.not_lt.1 h))]
end Go.Proofs.YtppdholccpgcpaaGreat
namespace Go.Proofs.YtppdholccpgcpaaGreat
open Go.ChangeShapes Go.WideShapes Go.ChangeAt Go.RowKit
set_option linter.unusedVariables false
set_option linter.unusedSimpArgs false
set_option maxRecDepth 4000
def ok12 (L : List PV) (U : List RV) : Bool := properB L && (decide (U.length = 3) && validB U)
def scX (t x y : Option Rat) : Option Rat := bothX (binQ mulQ t x) (binQ mulQ t y)
def scY (t x y : Option Rat) : Option Rat := bothY (binQ mulQ t x) (binQ mulQ t y)
def lgF (s : Option Rat × Option Rat) (e : R3 × R3 × R3) : Option Rat × Option Rat :=
  (bothX (binQ addQ s.1 (scX (valx e.1) (valx e.2.1) (valx e.2.2))) (binQ addQ s.2 (scY (valx e.1) (valx e.2.1) (valx e.2.2))), bothY (binQ addQ s.1 (scX (valx e.1) (valx e.2.1) (valx e.2.2))) (binQ addQ s.2 (scY (valx e.1) (valx e.2.1) (valx e.2.2))))
def lgP (U : List RV) (G : List PV) : List (R3 × R3 × R3) := (datQ U).zip (dat G)
def lgA (l : List (R3 × R3 × R3)) : Option Rat × Option Rat := l.foldl lgF (some 0, some 0)
def lgO (L : List PV) (U : List RV) : Option Rat × Option Rat := if ok12 L U = true ∧ (gradL L).length = 3 then lgA (lgP U (gradL L)) else (none, none)
theorem lgF_fit (s : Option Rat × Option Rat) (e : R3 × R3 × R3) : FitO (lgF s e).1 ∧ FitO (lgF s e).2 := ⟨bothX_fit (binadd_fit _ _), bothY_fit (binadd_fit _ _)⟩
theorem lgA_app (l : List (R3 × R3 × R3)) (e : R3 × R3 × R3) : lgA (l ++ [e]) = lgF (lgA l) e := by simp [lgA, List.foldl_append]
theorem lgA_fit (l : List (R3 × R3 × R3)) : FitO (lgA l).1 ∧ FitO (lgA l).2 := by
  rcases List.eq_nil_or_concat l with rfl | ⟨l', e, rfl⟩
  · exact ⟨zeroQ_fit, zeroQ_fit⟩
  · rw [List.concat_eq_append, lgA_app]; exact lgF_fit _ _
end Go.Proofs.YtppdholccpgcpaaGreat
namespace Go.Proofs.YtppdholccpgcpaaGreat
open Go.ChangeShapes Go.WideShapes Go.ChangeAt Go.RowKit
set_option linter.unusedVariables false
set_option linter.unusedSimpArgs false
set_option maxRecDepth 4000
theorem a3_agg (w : World) : (isAgg 80).run Tryz.prog w = .ok true w := by simp [isAgg, run_underlying Tryz.underlying80]
theorem a3_size : (Tryz.prog.info? 80).map (·.size) = some 18 := by kernel_rfl
def MadeP3 (B : Nat) (D : List (R3 × R3)) (w : World) (e : Ending) (w' : World) : Prop :=
  ∃ (g0 g1 g2 : PV), e = .returned (.agg (p18 g0 g1 g2)) ∧ dat [g0, g1, g2] = D ∧ (∀ p, p ∈ [g0, g1, g2] → CapP p) ∧ Owns B w'.heap.size w' (lrow [g0, g1, g2]) ∧ Aparts (lrow [g0, g1, g2]) ∧ Below w.heap.size w w'
def gjk (p q r : PV) : Nat → PV × PV
  | 0 => (q, r)
  | 1 => (r, p)
  | _ => (p, q)
def gU (p q r : PV) (j : Nat) : Option Rat := tX (gjk p q r j).1 (gjk p q r j).2 (invO (aV p q r))
def gV (p q r : PV) (j : Nat) : Option Rat := tY (gjk p q r j).1 (gjk p q r j).2 (invO (aV p q r))
def gD (p q r : PV) : List (R3 × R3) := [(ofO (gU p q r 0), ofO (gV p q r 0)), (ofO (gU p q r 1), ofO (gV p q r 1)), (ofO (gU p q r 2), ofO (gV p q r 2))]
theorem gU_fit (p q r : PV) (j : Nat) : FitO (gU p q r j) := tX_fit _ _ _
theorem gV_fit (p q r : PV) (j : Nat) : FitO (gV p q r j) := tY_fit _ _ _
theorem three_take (U V : Nat → R3) {j : Nat} (h : j < 3) : [(U 0, V 0), (U 1, V 1), (U 2, V 2)].take (j + 1) = [(U 0, V 0), (U 1, V 1), (U 2, V 2)].take j ++ [(U j, V j)] := by
  have : j = 0 ∨ j = 1 ∨ j = 2 := by omega
  rcases this with rfl | rfl | rfl <;> rfl
theorem three_pv {M : List PV} (h : M.length = 3) : ∃ a b c, M = [a, b, c] := by
  match M, h with
  | [a, b, c], _ => exact ⟨a, b, c, rfl⟩
end Go.Proofs.YtppdholccpgcpaaGreat
namespace Go.Proofs.YtppdholccpgcpaaGreat
open Go.ChangeShapes Go.WideShapes Go.ChangeAt Go.RowKit
set_option linter.unusedVariables false
set_option linter.unusedSimpArgs false
set_option maxRecDepth 4000
attribute [local go_sem ↓] Go.wp_at_zero Go.wp_at_succ
def quo1 (j k : PV) (s : Option Rat) : Option Rat := binQ quoQ (binQ subQ (valx j.y) (valx k.y)) s
def quo2 (j k : PV) (s : Option Rat) : Option Rat := binQ quoQ (binQ subQ (valx k.x) (valx j.x)) s
def vB (j k : PV) (s : Option Rat) : Bool := (quo1 j k s).isSome && (quo2 j k s).isSome
theorem tX_some (j k : PV) (s : Option Rat) : (tX j k (invO s)).isSome = vB j k s := by
  rw [(tX_quo j k s).1]
  show (bothX (quo1 j k s) (quo2 j k s)).isSome = _
  unfold vB
  cases quo1 j k s <;> cases quo2 j k s <;> rfl
theorem tX_pos (j k : PV) (s : Option Rat) : (0 < (ofO (tX j k (invO s))).m.length) = (vB j k s = true) := by
  rw [← tX_some, ← len_pos, decide_eq_true_eq]
theorem gradV_no {p q r : PV} {s : Option Rat} (h : ¬ (vB q r s = true ∧ vB r p s = true ∧ vB p q s = true)) : gradV p q r (invO s) = [] := by
  unfold gradV gl3
  refine if_neg (fun h' => h ?_)
  rw [tX_pos, tX_pos, tX_pos] at h'
  exact h'
theorem grad_no {L : List PV} (h : properB L = false) : gradL L = [] := by
  unfold gradL
  rw [aT_no h]
  refine gradV_no (fun h' => ?_)
  have h1 := h'.1
  unfold vB quo1 at h1
  have e : ∀ o : Option Rat, binQ quoQ o none = none := fun o => by cases o <;> rfl
  rw [e] at h1
  cases h1
end Go.Proofs.YtppdholccpgcpaaGreat
