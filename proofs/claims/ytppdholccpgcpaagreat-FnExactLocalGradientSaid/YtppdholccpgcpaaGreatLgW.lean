/-
  The gradient of a linear function: words for both.
-/
import Derived.Test.YtppdholccpgcpaaGreatWp
import Derived.Test.YtppdholccpgcpaaGreatGrB
import Derived.Test.YtppdholccpgcpaaGreatSgR
import Derived.Test.YtppdholccpgcpaaGreatLawXs
namespace Go.Proofs.YtppdholccpgcpaaGreat
open Go.ChangeShapes Go.WideShapes Go.ChangeAt Go.RowKit
set_option linter.unusedVariables false
set_option linter.unusedSimpArgs false
set_option maxRecDepth 4000
def ok12 (L : List PV) (U : List RV) : Bool := properB L && (decide (U.length = 3) && validB U)
def scX (t x y : Option Rat) : Option Rat := bothX (binQ mulQ t x) (binQ mulQ t y)
def scY (t x y : Option Rat) : Option Rat := bothY (binQ mulQ t x) (binQ mulQ t y)
def lgF (s : Option Rat × Option Rat) (e : R3 × R3 × R3) : Option Rat × Option Rat :=
  (bothX (binQ addQ s.1 (scX (valx e.1) (valx e.2.1) (valx e.2.2))) (binQ addQ s.2 (scY (valx e.1) (valx e.2.1) (valx e.2.2))), bothY (binQ addQ s.1 (scX (valx e.1) (valx e.2.1) (valx e.2.2))) (binQ addQ s.2 (scY (valx e.1) (valx e.2.1) (valx e.2.2))))
def lgP (U : List RV) (G : List PV) : List (R3 × R3 × R3) := (datQ U).zip (dat G)
def lgA (l : List (R3 × R3 × R3)) : Option Rat × Option Rat := l.foldl lgF (some 0, some 0)
def lgO (L : List PV) (U : List RV) : Option Rat × Option Rat := if ok12 L U = true ∧ (gradL L).length = 3 then lgA (lgP U (gradL L)) else (none, none)
theorem lgF_fit (s : Option Rat × Option Rat) (e : R3 × R3 × R3) : FitO (lgF s e).1 ∧ FitO (lgF s e).2 := ⟨bothX_fit (binadd_fit _ _), bothY_fit (binadd_fit _ _)⟩
theorem lgA_app (l : List (R3 × R3 × R3)) (e : R3 × R3 × R3) : lgA (l ++ [e]) = lgF (lgA l) e := by simp [lgA, List.foldl_append]
theorem lgA_fit (l : List (R3 × R3 × R3)) : FitO (lgA l).1 ∧ FitO (lgA l).2 := by
  rcases List.eq_nil_or_concat l with rfl | ⟨l', e, rfl⟩
  · exact ⟨zeroQ_fit, zeroQ_fit⟩
  · rw [List.concat_eq_append, lgA_app]; exact lgF_fit _ _
theorem lgO_fit (L : List PV) (U : List RV) : FitO (lgO L U).1 ∧ FitO (lgO L U).2 := by
  unfold lgO
  split
  · exact lgA_fit _
  · exact ⟨fitO_none, fitO_none⟩
theorem lgP_step {U : List RV} {G : List PV} {j : Nat} {p : RV} {q : PV} (hp : U[j]? = some p) (hq : G[j]? = some q) : (lgP U G).take (j + 1) = (lgP U G).take j ++ [(p.x, q.x, q.y)] := by
  have h : (lgP U G)[j]? = some (p.x, q.x, q.y) := by
    unfold lgP datQ dat
    rw [List.getElem?_zip_eq_some]
    simp [hp, hq]
  rw [List.take_add_one, h]; rfl
theorem lgP_all {U : List RV} {G : List PV} (hU : U.length = 3) (hG : G.length = 3) : (lgP U G).take 3 = lgP U G := by
  apply List.take_of_length_le
  unfold lgP datQ dat
  rw [List.length_zip, List.length_map, List.length_map, hU, hG]
  exact Nat.le_refl _
theorem grown_rds {W0 W : World} {rr : Nat} {rs : List (Option Addr × List Value)} (hK : W0.grownBy W (some rr)) (h : Rds W0 rs) (ho : OffG rr rs) : Rds W rs := fun r hr => by
  rcases h r hr with h1 | ⟨b, off, ha, hs, hc⟩
  · exact .inl h1
  · by_cases h0 : r.2.length = 0
    · exact .inl (List.eq_nil_of_length_eq_zero h0)
    have hb : b ≠ rr := fun e => ho r hr (by unfold rowOf; rw [if_neg h0, ha, e]; rfl)
    have hk : W.heap[b]? = W0.heap[b]? := hK.block b hs (fun e => hb (by injection e))
    refine .inr ⟨b, off, ha, Nat.lt_of_lt_of_le hs hK.size, fun j hj => ?_⟩
    rw [World.cell?_of_block (w := W0) (a := ⟨b, off + j, none⟩) hk]; exact hc j hj
theorem tri_dats {L M : List PV} (h : dat M = dat L) : ((tri1 M).x = (tri1 L).x ∧ (tri1 M).y = (tri1 L).y) ∧ ((tri2 M).x = (tri2 L).x ∧ (tri2 M).y = (tri2 L).y) ∧ (tri3 M).x = (tri3 L).x ∧ (tri3 M).y = (tri3 L).y := by
  cases hp : properB L with
  | false =>
    obtain ⟨e1, e2, e3⟩ := tri_no hp
    obtain ⟨f1, f2, f3⟩ := tri_no (L := M) (by rw [properB_dat h]; exact hp)
    rw [e1, e2, e3, f1, f2, f3]; exact ⟨⟨rfl, rfl⟩, ⟨rfl, rfl⟩, rfl, rfl⟩
  | true =>
    have hp' : properB M = true := by rw [properB_dat h]; exact hp
    obtain ⟨p, q, r, rfl, _, _⟩ := properB_three hp
    obtain ⟨p', q', r', rfl, ⟨a1, a2⟩, ⟨a3, a4⟩, a5, a6⟩ := dat_three h
    obtain ⟨e1, e2, e3⟩ := tri_yes hp
    obtain ⟨f1, f2, f3⟩ := tri_yes hp'
    rw [e1, e2, e3, f1, f2, f3]; exact ⟨⟨a1, a2⟩, ⟨a3, a4⟩, a5, a6⟩
theorem gradL_dats {L M : List PV} (h : dat M = dat L) : gradL M = gradL L := by
  obtain ⟨⟨a1, a2⟩, ⟨b1, b2⟩, c1, c2⟩ := tri_dats h
  unfold gradL gradV tX tY nX nY
  rw [aT_dat h, a1, a2, b1, b2, c1, c2]
theorem lgO_dat {L M : List PV} {U V : List RV} (h : dat M = dat L) (h' : datQ V = datQ U) : lgO M V = lgO L U := by
  unfold lgO ok12 lgP
  rw [properB_dat h, validB_dat h', datQ_len h', gradL_dats h, h']
theorem grad_len (L : List PV) : ∀ p, p ∈ gradL L → LenP p := by
  have K : ∀ (a b : Option Rat), FitO a → FitO b → LenP ⟨ofO a, ofO b, noA, noA⟩ := fun a b ha hb => by
    have h1 := ha.len
    have h2 := hb.len
    exact ⟨⟨by show (ofO a).l.length ≤ _; omega, by show (ofO a).m.length ≤ _; omega⟩, by show (ofO b).l.length ≤ _; omega, by show (ofO b).m.length ≤ _; omega⟩
  intro p hp
  unfold gradL gradV gl3 at hp
  split at hp
  · simp only [List.mem_cons, List.not_mem_nil, or_false] at hp
    rcases hp with rfl | rfl | rfl <;> exact K _ _ (tX_fit _ _ _) (tY_fit _ _ _)
  · cases hp
end Go.Proofs.YtppdholccpgcpaaGreat
