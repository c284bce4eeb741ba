/-
  The program's LocalGradient.
-/
import Derived.Test.YtppdholccpgcpaaGreatWg
import Derived.Test.YtppdholccpgcpaaGreatLawP
import Derived.Test.YtppdholccpgcpaaGreatLgM
import Derived.Test.YtppdholccpgcpaaGreatInV
import Derived.Test.YtppdholccpgcpaaGreatGrS
namespace Go.Proofs.YtppdholccpgcpaaGreat
open Go.ChangeShapes Go.WideShapes Go.ChangeAt Go.RowKit
set_option linter.unusedVariables false
set_option linter.unusedSimpArgs false
set_option maxRecDepth 4000
theorem lgF_none (e : R3 × R3 × R3) : lgF (none, none) e = (none, none) := by
  unfold lgF
  show (bothX none (binQ addQ none _), bothY none (binQ addQ none _)) = _
  rw [(both_n1 _).1, (both_n1 _).2]
theorem lgF_bad (s : Option Rat × Option Rat) (e : R3 × R3 × R3) (h : valx e.2.1 = none ∧ valx e.2.2 = none) : lgF s e = (none, none) := by
  have e1 : ∀ x : Option Rat, binQ addQ x none = none := fun x => by cases x <;> rfl
  have e2 : ∀ t : Option Rat, binQ mulQ t none = none := fun x => by cases x <;> rfl
  unfold lgF scX scY
  rw [h.1, h.2, e2, (both_n1 none).1, (both_n1 none).2, e1, (both_n1 _).1, (both_n1 _).2]
theorem lgA_three (a b c : R3 × R3 × R3) : lgA [a, b, c] = lgF (lgF (lgF (some 0, some 0) a) b) c := rfl
theorem len_none {x : R3} (hx : x = ofO (valx x)) (h : ¬ 0 < x.m.length) : valx x = none := by
  cases hv : valx x with
  | none => rfl
  | some r =>
    have h1 := len_pos (some r)
    rw [hv] at hx
    rw [← hx, decide_eq_false h] at h1
    cases h1
theorem lg_same {L : List PV} {U : List RV} (hU : U.length = 3) (hV : validB U = true) : lgA (lgX U (gD (tri1 L) (tri2 L) (tri3 L))) = lgO L U := by
  unfold lgO
  have hN := gD_nice (tri1 L) (tri2 L) (tri3 L)
  have hG : gradL L = gl3 (ofO (gU (tri1 L) (tri2 L) (tri3 L) 0)) (ofO (gV (tri1 L) (tri2 L) (tri3 L) 0)) (ofO (gU (tri1 L) (tri2 L) (tri3 L) 1)) (ofO (gV (tri1 L) (tri2 L) (tri3 L) 1)) (ofO (gU (tri1 L) (tri2 L) (tri3 L) 2)) (ofO (gV (tri1 L) (tri2 L) (tri3 L) 2)) := rfl
  have n0 := hN 0 _ _ rfl
  have n1 := hN 1 _ _ rfl
  have n2 := hN 2 _ _ rfl
  have hD : gD (tri1 L) (tri2 L) (tri3 L) = [(ofO (gU (tri1 L) (tri2 L) (tri3 L) 0), ofO (gV (tri1 L) (tri2 L) (tri3 L) 0)), (ofO (gU (tri1 L) (tri2 L) (tri3 L) 1), ofO (gV (tri1 L) (tri2 L) (tri3 L) 1)), (ofO (gU (tri1 L) (tri2 L) (tri3 L) 2), ofO (gV (tri1 L) (tri2 L) (tri3 L) 2))] := rfl
  have hp : (gradL L).length = 3 → properB L = true := fun h => by
    cases hp : properB L with
    | true => rfl
    | false =>
      have hg : gradL L = [] := grad_no hp
      rw [hg] at h; cases h
  rw [hD]
  generalize ofO (gU (tri1 L) (tri2 L) (tri3 L) 0) = x0 at *
  generalize ofO (gV (tri1 L) (tri2 L) (tri3 L) 0) = y0 at *
  generalize ofO (gU (tri1 L) (tri2 L) (tri3 L) 1) = x1 at *
  generalize ofO (gV (tri1 L) (tri2 L) (tri3 L) 1) = y1 at *
  generalize ofO (gU (tri1 L) (tri2 L) (tri3 L) 2) = x2 at *
  generalize ofO (gV (tri1 L) (tri2 L) (tri3 L) 2) = y2 at *
  clear hN hD
  by_cases h3 : 0 < x0.m.length ∧ 0 < x1.m.length ∧ 0 < x2.m.length
  · have e : gradL L = [⟨x0, y0, noA, noA⟩, ⟨x1, y1, noA, noA⟩, ⟨x2, y2, noA, noA⟩] := by rw [hG]; unfold gl3; rw [if_pos h3]
    have h3' : (gradL L).length = 3 := by rw [e]; rfl
    rw [if_pos ⟨by unfold ok12; rw [hp h3', hV, hU]; rfl, h3'⟩, e]
    rfl
  · have e : gradL L = [] := by rw [hG]; unfold gl3; rw [if_neg h3]
    rw [if_neg (by rw [e]; intro h; cases h.2)]
    match U, hU with
    | [a, b, c], _ =>
      show lgA [(a.x, x0, y0), (b.x, x1, y1), (c.x, x2, y2)] = _
      rw [lgA_three]
      by_cases h0 : 0 < x0.m.length
      · by_cases h1 : 0 < x1.m.length
        · have h2 : ¬ 0 < x2.m.length := fun h => h3 ⟨h0, h1, h⟩
          exact lgF_bad _ _ (n2.2 (.inl (len_none n2.1.1 h2)))
        · rw [lgF_bad _ (b.x, x1, y1) (n1.2 (.inl (len_none n1.1.1 h1))), lgF_none]
      · rw [lgF_bad _ (a.x, x0, y0) (n0.2 (.inl (len_none n0.1.1 h0))), lgF_none, lgF_none]
theorem lgO_no {L : List PV} {U : List RV} (h : (decide (U.length = 3) && validB U) = false) : lgO L U = (none, none) := by
  unfold lgO
  rw [if_neg]
  intro h1
  have h2 := h1.1
  unfold ok12 at h2
  rw [h, Bool.and_false] at h2
  cases h2
attribute [local go_sem ↓] Go.wp_at_zero Go.wp_at_succ
set_option maxHeartbeats 4000000 in
theorem impl_localGradient (L : List PV) (A : Option Addr) (c : Nat) (U : List RV) (D : Option Addr) (d : Nat) (w : World) (hn : L.length ≤ 9223372036854775807) (hL : ∀ p, p ∈ L → LenP p) (hA : RdS w A (flat L)) (hR : Rds w (lrow L))
    (hn' : U.length ≤ 9223372036854775807) (hL' : ∀ p, p ∈ U → LenQ p) (hA' : RdS w D (flatQ U)) (hR' : Rds w (lrowQ U)) :
    Calls Tryz.prog 35 #[.slice A L.length c, .slice D U.length d] w (MadeP w.heap.size (ofO (lgO L U).1) (ofO (lgO L U).2) w) := by
  have HT : Hid (∀ W, Below w.heap.size w W → Calls Tryz.prog 63 #[.slice A L.length c] W (fun e w' => e = .returned (.agg (p18 (tri1 L) (tri2 L) (tri3 L))) ∧ Below W.heap.size W w')) := Lib.hid (fun W hB => tri_any L A c W hn hL (hA.below hB) (hR.below hB))
  have RT : Hid (∀ W, Below w.heap.size w W → TriOk W (tri1 L) (tri2 L) (tri3 L)) := Lib.hid (fun W hB => tri_ok (hR.below hB))
  have HL := Lib.hid (fun W hB => isLocal U D d W hn' hL' (RdS.below hA' hB) (Rds.below hR' hB))
  have P_o := heap_alloc_new w (.cells z6 31)
  have kb := ba1 w (.cells z6 31)
  have hlt := rblk_lt P_o
  cases hv : (decide (U.length = 3) && validB U) with
  | false =>
    rw [lgO_no hv]
    rw [hv] at HL
    clear hv hA hR hA' hR' hL hL' hn HT RT
    generalize L.length = n
    generalize U.length = m at *
    go_enter Tryz.func35, Tryz.ntmps35
    go_wp2_with fail
    generalize w.alloc (.cells z6 31) = W1 at P_o kb ⊢
    refine (HL.out _ kb).mono ?_
    rintro e W2 ⟨rfl, hb⟩
    replace P_o := rblk_below P_o hb
    replace kb := bt kb hb
    clear hb
    have o0 := rblk_cell P_o 0
    have f0 := rblk_free P_o 0
    have o1 := rblk_cell P_o 1
    have f1 := rblk_free P_o 1
    have o2 := rblk_cell P_o 2
    have f2 := rblk_free P_o 2
    have o3 := rblk_cell P_o 3
    have f3 := rblk_free P_o 3
    have o4 := rblk_cell P_o 4
    have f4 := rblk_free P_o 4
    have o5 := rblk_cell P_o 5
    have f5 := rblk_free P_o 5
    go_wp2
    exact bodyPost_ret (v := .agg z6) (by simp [results, Tryz.results35, go_sem, o0, o1, o2, o3, o4, o5]) rfl (none_point _ _ _ (below_put6 kb (Nat.le_refl _) _ _ _ _ _ _))
  | true =>
    have hv2 := hv
    simp only [Bool.and_eq_true, decide_eq_true_eq] at hv2
    obtain ⟨hU3, hvv⟩ := hv2
    have HM := Lib.hid (fun W hB => gradient_m (tri1 L) (tri2 L) (tri3 L) U D d W (RT.out W hB) hU3 hL' hvv (RdS.below hA' hB) (Rds.below hR' hB))
    rw [lg_same hU3 hvv] at HM
    generalize ofO (lgO L U).1 = V at HM ⊢
    generalize ofO (lgO L U).2 = T at HM ⊢
    generalize tri1 L = p at HT HM
    generalize tri2 L = q at HT HM
    generalize tri3 L = r at HT HM
    unfold MadeP at HM
    rw [hv] at HL
    rw [hU3] at HL ⊢
    clear hv hA hR hA' hR' hL hL' hn RT hU3 hvv
    generalize L.length = n at HT ⊢
    go_enter Tryz.func35, Tryz.ntmps35
    go_wp2_with fail
    generalize w.alloc (.cells z6 31) = W1 at P_o kb hlt ⊢
    refine (HL.out _ kb).mono ?_
    rintro e W2 ⟨rfl, hb⟩
    replace P_o := rblk_below P_o hb
    replace kb := bt kb hb
    clear hb
    go_wp2_with fail
    refine (HT.out _ kb).mono ?_
    rintro e W3 ⟨rfl, hb⟩
    replace P_o := rblk_below P_o hb
    replace kb := bt kb hb
    clear hb
    go_wp2_with fail
    have hz := rblk_lt P_o
    refine (HM.out _ kb).mono ?_
    rintro e W4 ⟨ax, bx, rfl, hcx, ol, hapl, hb⟩
    replace P_o := rblk_below P_o hb
    replace kb := bt kb hb
    clear hb
    have o0 := rblk_cell P_o 0
    have f0 := rblk_free P_o 0
    have o1 := rblk_cell P_o 1
    have f1 := rblk_free P_o 1
    have o2 := rblk_cell P_o 2
    have f2 := rblk_free P_o 2
    have o3 := rblk_cell P_o 3
    have f3 := rblk_free P_o 3
    have o4 := rblk_cell P_o 4
    have f4 := rblk_free P_o 4
    have o5 := rblk_cell P_o 5
    have f5 := rblk_free P_o 5
    go_wp2
    exact bodyPost_ret (v := .agg (r6 V T ax bx)) (by simp [results, Tryz.results35, go_sem, o0, o1, o2, o3, o4, o5]) rfl ⟨ax, bx, rfl, hcx, owns_end6 ol (.inl hz) (Nat.le_of_lt hz) (Nat.le_refl _) _ _ _ _ _ _, hapl, below_put6 kb (Nat.le_refl _) _ _ _ _ _ _⟩
end Go.Proofs.YtppdholccpgcpaaGreat
