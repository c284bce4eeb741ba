/-
  The program's ProductIntegral.
-/
import Derived.Test.YtppdholccpgcpaaGreatWg
import Derived.Test.YtppdholccpgcpaaGreatLawP
import Derived.Test.YtppdholccpgcpaaGreatPiM
import Derived.Test.YtppdholccpgcpaaGreatInV
import Derived.Test.YtppdholccpgcpaaGreatItI
namespace Go.Proofs.YtppdholccpgcpaaGreat
open Go.ChangeShapes Go.WideShapes Go.ChangeAt Go.RowKit
set_option linter.unusedVariables false
set_option linter.unusedSimpArgs false
set_option maxRecDepth 4000
theorem acc_same (L : List PV) (U V : List RV) (t : Nat) : accI (mF (tri1 L) (tri2 L) (tri3 L)) U V t = accP L U V t := by
  induction t with
  | zero => rfl
  | succ t ih =>
    show binQ addQ (accI (mF (tri1 L) (tri2 L) (tri3 L)) U V t) (binQ mulQ (binQ mulQ (valU U (t / 3)) (valU V (t % 3))) (mF (tri1 L) (tri2 L) (tri3 L) (t / 3) (t % 3))) = binQ addQ (accP L U V t) (binQ mulQ (massF L (t / 3) (t % 3)) (binQ mulQ (valU U (t / 3)) (valU V (t % 3))))
    rw [ih, ← mass_same, mulO_comm]
theorem accP_stay {L : List PV} {U V : List RV} {t : Nat} (h : accP L U V t = none) (k : Nat) : accP L U V (t + k) = none := by
  induction k with
  | zero => exact h
  | succ k ih => show binQ addQ (accP L U V (t + k)) _ = none; rw [ih]; rfl
theorem accP_none {L : List PV} {U V : List RV} {i j : Nat} (hi : i < 3) (hj : j < 3) (h : massF L i j = none) : accP L U V 9 = none := by
  have h1 : accP L U V (3 * i + j + 1) = none := by
    show binQ addQ (accP L U V (3 * i + j)) (binQ mulQ (massF L ((3 * i + j) / 3) ((3 * i + j) % 3)) _) = none
    rw [show (3 * i + j) / 3 = i by omega, show (3 * i + j) % 3 = j by omega, h]
    show binQ addQ (accP L U V (3 * i + j)) none = none
    cases accP L U V (3 * i + j) <;> rfl
  have h2 := accP_stay h1 (8 - (3 * i + j))
  rwa [show 3 * i + j + 1 + (8 - (3 * i + j)) = 9 by omega] at h2
theorem okF_bad {F : Nat → Nat → Option Rat} (h : okF F 3 3 = false) : ∃ i j, i < 3 ∧ j < 3 ∧ F i j = none := by
  unfold okF at h
  rw [List.all_eq_false] at h
  obtain ⟨i, hi, h1⟩ := h
  rw [Bool.not_eq_true, List.all_eq_false] at h1
  obtain ⟨j, hj, h2⟩ := h1
  refine ⟨i, j, List.mem_range.1 hi, List.mem_range.1 hj, ?_⟩
  cases hf : F i j with
  | none => rfl
  | some x => rw [hf] at h2; exact absurd rfl h2
theorem prod_same {L : List PV} {U V : List RV} (hU : (decide (U.length = 3) && validB U) = true) (hV : (decide (V.length = 3) && validB V) = true) : accI (mF (tri1 L) (tri2 L) (tri3 L)) U V 9 = prodO L U V := by
  rw [acc_same]
  unfold prodO
  cases hk : okF (massF L) 3 3 with
  | true =>
    have hp : properB L = true := by
      cases hp : properB L with
      | true => rfl
      | false =>
        have e : massF L 0 0 = none := by unfold massF areaQ; rw [aT_no hp]; rfl
        rw [okF_no (by omega) e] at hk; cases hk
    rw [if_pos ⟨by unfold ok12; rw [hp, hU]; rfl, by unfold ok12; rw [hp, hV]; rfl, rfl⟩]
  | false =>
    obtain ⟨i, j, hi, hj, e⟩ := okF_bad hk
    rw [if_neg (by intro h; cases h.2.2), accP_none hi hj e]
theorem prodO_no1 {L : List PV} {U V : List RV} (h : (decide (U.length = 3) && validB U) = false) : prodO L U V = none := by
  unfold prodO
  rw [if_neg]
  intro h1
  have h2 := h1.1
  unfold ok12 at h2
  rw [h, Bool.and_false] at h2; cases h2
theorem prodO_no2 {L : List PV} {U V : List RV} (h : (decide (V.length = 3) && validB V) = false) : prodO L U V = none := by
  unfold prodO
  rw [if_neg]
  intro h1
  have h2 := h1.2.1
  unfold ok12 at h2
  rw [h, Bool.and_false] at h2; cases h2
attribute [local go_sem ↓] Go.wp_at_zero Go.wp_at_succ
set_option maxHeartbeats 4000000 in
theorem impl_productIntegral (L : List PV) (A : Option Addr) (c : Nat) (U : List RV) (D : Option Addr) (d : Nat) (V : List RV) (E : Option Addr) (e' : Nat) (w : World) (hn : L.length ≤ 9223372036854775807) (hL : ∀ p, p ∈ L → LenP p) (hA : RdS w A (flat L)) (hR : Rds w (lrow L))
    (hn' : U.length ≤ 9223372036854775807) (hL' : ∀ p, p ∈ U → LenQ p) (hA' : RdS w D (flatQ U)) (hR' : Rds w (lrowQ U)) (hn2 : V.length ≤ 9223372036854775807) (hL2 : ∀ p, p ∈ V → LenQ p) (hA2 : RdS w E (flatQ V)) (hR2 : Rds w (lrowQ V)) :
    Calls Tryz.prog 33 #[.slice A L.length c, .slice D U.length d, .slice E V.length e'] w (MadeQ w.heap.size (ofO (prodO L U V)) w) := by
  have HT : Hid (∀ W, Below w.heap.size w W → Calls Tryz.prog 63 #[.slice A L.length c] W (fun e w' => e = .returned (.agg (p18 (tri1 L) (tri2 L) (tri3 L))) ∧ Below W.heap.size W w')) := Lib.hid (fun W hB => tri_any L A c W hn hL (hA.below hB) (hR.below hB))
  have RT : Hid (∀ W, Below w.heap.size w W → TriOk W (tri1 L) (tri2 L) (tri3 L)) := Lib.hid (fun W hB => tri_ok (hR.below hB))
  have HU := Lib.hid (fun W hB => isLocal U D d W hn' hL' (RdS.below hA' hB) (Rds.below hR' hB))
  have HV := Lib.hid (fun W hB => isLocal V E e' W hn2 hL2 (RdS.below hA2 hB) (Rds.below hR2 hB))
  have P_o := heap_alloc_new w (.cells z3 29)
  have kb := ba1 w (.cells z3 29)
  have hlt := rblk_lt P_o
  cases hu : (decide (U.length = 3) && validB U) with
  | false =>
    rw [prodO_no1 hu]
    rw [hu] at HU
    clear hu hA hR hA' hR' hA2 hR2 hL hL' hL2 hn HT RT HV
    generalize L.length = n
    generalize U.length = m at *
    generalize V.length = k at *
    go_enter Tryz.func33, Tryz.ntmps33
    go_wp2_with fail
    generalize w.alloc (.cells z3 29) = W1 at P_o kb ⊢
    refine (HU.out _ kb).mono ?_
    rintro e W2 ⟨rfl, hb⟩
    replace P_o := rblk_below P_o hb
    replace kb := bt kb hb
    clear hb
    have o0 := rblk_cell P_o 0
    have f0 := rblk_free P_o 0
    have o1 := rblk_cell P_o 1
    have f1 := rblk_free P_o 1
    have o2 := rblk_cell P_o 2
    have f2 := rblk_free P_o 2
    go_wp2
    exact bodyPost_ret (v := .agg z3) (by simp [results, Tryz.results33, go_sem, o0, o1, o2]) rfl (none_rat _ _ _ (below_put3 kb (Nat.le_refl _) _ _ _))
  | true =>
    rw [hu] at HU
    cases hv : (decide (V.length = 3) && validB V) with
    | false =>
      rw [prodO_no2 hv]
      rw [hv] at HV
      clear hu hv hA hR hA' hR' hA2 hR2 hL hL' hL2 hn HT RT
      generalize L.length = n
      generalize U.length = m at *
      generalize V.length = k at *
      go_enter Tryz.func33, Tryz.ntmps33
      go_wp2_with fail
      generalize w.alloc (.cells z3 29) = W1 at P_o kb ⊢
      refine (HU.out _ kb).mono ?_
      rintro e W2 ⟨rfl, hb⟩
      replace P_o := rblk_below P_o hb
      replace kb := bt kb hb
      clear hb
      go_wp2_with fail
      refine (HV.out _ kb).mono ?_
      rintro e W3 ⟨rfl, hb⟩
      replace P_o := rblk_below P_o hb
      replace kb := bt kb hb
      clear hb
      have o0 := rblk_cell P_o 0
      have f0 := rblk_free P_o 0
      have o1 := rblk_cell P_o 1
      have f1 := rblk_free P_o 1
      have o2 := rblk_cell P_o 2
      have f2 := rblk_free P_o 2
      go_wp2
      exact bodyPost_ret (v := .agg z3) (by simp [results, Tryz.results33, go_sem, o0, o1, o2]) rfl (none_rat _ _ _ (below_put3 kb (Nat.le_refl _) _ _ _))
    | true =>
      rw [hv] at HV
      have hu2 := hu
      have hv2 := hv
      simp only [Bool.and_eq_true, decide_eq_true_eq] at hu2 hv2
      obtain ⟨hU3, huv⟩ := hu2
      obtain ⟨hV3, hvv⟩ := hv2
      have HM := Lib.hid (fun W hB => product_m (tri1 L) (tri2 L) (tri3 L) U D d V E e' W (RT.out W hB) hU3 hL' huv (RdS.below hA' hB) (Rds.below hR' hB) hV3 hL2 hvv (RdS.below hA2 hB) (Rds.below hR2 hB))
      rw [prod_same hu hv] at HM
      generalize ofO (prodO L U V) = X at HM ⊢
      generalize tri1 L = p at HT HM
      generalize tri2 L = q at HT HM
      generalize tri3 L = r at HT HM
      unfold MadeQ at HM
      rw [hU3] at HU ⊢
      rw [hV3] at HV ⊢
      clear hu hv hA hR hA' hR' hA2 hR2 hL hL' hL2 hn RT hU3 huv hV3 hvv
      generalize L.length = n at HT ⊢
      go_enter Tryz.func33, Tryz.ntmps33
      go_wp2_with fail
      generalize w.alloc (.cells z3 29) = W1 at P_o kb hlt ⊢
      refine (HU.out _ kb).mono ?_
      rintro e W2 ⟨rfl, hb⟩
      replace P_o := rblk_below P_o hb
      replace kb := bt kb hb
      clear hb
      go_wp2_with fail
      refine (HV.out _ kb).mono ?_
      rintro e W3 ⟨rfl, hb⟩
      replace P_o := rblk_below P_o hb
      replace kb := bt kb hb
      clear hb
      go_wp2_with fail
      refine (HT.out _ kb).mono ?_
      rintro e W4 ⟨rfl, hb⟩
      replace P_o := rblk_below P_o hb
      replace kb := bt kb hb
      clear hb
      go_wp2_with fail
      have hz := rblk_lt P_o
      refine (HM.out _ kb).mono ?_
      rintro e W5 ⟨ax, rfl, hcx, hcy, ol, hapl, hb⟩
      replace P_o := rblk_below P_o hb
      replace kb := bt kb hb
      clear hb
      have o0 := rblk_cell P_o 0
      have f0 := rblk_free P_o 0
      have o1 := rblk_cell P_o 1
      have f1 := rblk_free P_o 1
      have o2 := rblk_cell P_o 2
      have f2 := rblk_free P_o 2
      go_wp2
      exact bodyPost_ret (v := .agg (r3 X ax)) (by simp [results, Tryz.results33, go_sem, o0, o1, o2]) rfl ⟨ax, rfl, hcx, hcy, owns_end3 ol (.inl hz) (Nat.le_of_lt hz) (Nat.le_refl _) _ _ _, hapl, below_put3 kb (Nat.le_refl _) _ _ _⟩
end Go.Proofs.YtppdholccpgcpaaGreat
