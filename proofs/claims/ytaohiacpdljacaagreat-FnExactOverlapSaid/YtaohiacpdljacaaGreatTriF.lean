/-
  The model's Overlap.
-/
import Derived.Test.YtaohiacpdljacaaGreatTriE
import Derived.Test.YtaohiacpdljacaaGreatTriV
namespace Go.Proofs.YtaohiacpdljacaaGreat
open Go.ChangeShapes Go.WideShapes Go.ChangeAt Go.RowKit
open Go.ChangeMaps (open_string shut_string)
set_option linter.unusedVariables false
set_option linter.unusedSimpArgs false
set_option maxRecDepth 4000

attribute [local go_sem ↓] Go.wp_at_zero Go.wp_at_succ
theorem rB_0 (u : PV) : rB PV0 PV0 u = false := by
  unfold rB
  rw [aV_no (p := PV0) (q := PV0) (r := u) rfl]; rfl
theorem sepB_0 (u v s : PV) : sepB PV0 PV0 PV0 u v s = true := by unfold sepB reachB; rw [rB_0, rB_0, rB_0]; rfl
theorem ov_no1 {L M : List PV} (h : properB L = false) : ovB L M = false := by
  obtain ⟨e1, e2, e3⟩ := tri_no h
  unfold ovB; rw [e1, e2, e3, sepB_0]; rfl
theorem ov_no2 {L M : List PV} (h : properB M = false) : ovB L M = false := by
  obtain ⟨e1, e2, e3⟩ := tri_no h
  unfold ovB; rw [e1, e2, e3, sepB_0]; simp
theorem ov_yes {p q r u v s : PV} (h : properB [p, q, r] = true) (h' : properB [u, v, s] = true) : ovB [p, q, r] [u, v, s] = (!sepB p q r u v s && !sepB u v s p q r) := by
  obtain ⟨e1, e2, e3⟩ := tri_yes h
  obtain ⟨e4, e5, e6⟩ := tri_yes h'
  unfold ovB; rw [e1, e2, e3, e4, e5, e6]
set_option maxHeartbeats 4000000 in
theorem spec_overlap (L M : List PV) (A D : Option Addr) (c d : Nat) (w : World) (hn : L.length ≤ 9223372036854775807) (hL : ∀ p, p ∈ L → LenP p) (hC : ∀ p, p ∈ L → CapP p) (hA : RdS w A (flat L)) (hR : Rds w (lrow L)) (hn' : M.length ≤ 9223372036854775807) (hL' : ∀ p, p ∈ M → LenP p) (hC' : ∀ p, p ∈ M → CapP p) (hA' : RdS w D (flat M)) (hR' : Rds w (lrow M)) :
    Calls Tryz.prog 24 #[.slice A L.length c, .slice D M.length d] w (fun e w' => e = .returned (.bool (ovB L M)) ∧ Below w.heap.size w w') := by
  have HP1 := Lib.hid (fun W h h' => spec_proper L A c W hn hL hC h h')
  have HP2 := Lib.hid (fun W h h' => spec_proper M D d W hn' hL' hC' h h')
  have RR : Hid (∀ W, Below w.heap.size w W → (RdS W A (flat L) ∧ Rds W (lrow L)) ∧ RdS W D (flat M) ∧ Rds W (lrow M)) := Lib.hid (fun W hB => ⟨⟨hA.below hB, hR.below hB⟩, hA'.below hB, hR'.below hB⟩)
  cases hp : properB L with
  | false =>
    rw [hp] at HP1
    rw [ov_no1 hp]
    generalize L.length = n at HP1 ⊢
    generalize M.length = m
    clear hn hL hC hA hR hn' hL' hC' hA' hR' HP2 hp
    go_enter Tryz.func24, Tryz.ntmps24
    go_wp2_with fail
    refine (HP1.out _ (RR.out _ (Below.refl _ _)).1.1 (RR.out _ (Below.refl _ _)).1.2).mono ?_
    rintro e W1 ⟨rfl, kb⟩
    go_wp2
    go_ret
    exact ⟨rfl, kb⟩
  | true =>
    rw [hp] at HP1
    cases hp' : properB M with
    | false =>
      rw [hp'] at HP2
      rw [ov_no2 hp']
      generalize L.length = n at HP1 ⊢
      generalize M.length = m at HP2 ⊢
      clear hn hL hC hA hR hn' hL' hC' hA' hR' hp hp'
      go_enter Tryz.func24, Tryz.ntmps24
      go_wp2_with fail
      refine (HP1.out _ (RR.out _ (Below.refl _ _)).1.1 (RR.out _ (Below.refl _ _)).1.2).mono ?_
      rintro e W1 ⟨rfl, kb⟩
      go_wp2_with fail
      refine (HP2.out _ (RR.out _ kb).2.1 (RR.out _ kb).2.2).mono ?_
      rintro e W2 ⟨rfl, hb⟩
      replace kb := bt kb hb
      go_wp2
      go_ret
      exact ⟨rfl, kb⟩
    | true =>
      rw [hp'] at HP2
      obtain ⟨p, q, r, rfl, _, _⟩ := properB_three hp
      obtain ⟨u, v, s, rfl, _, _⟩ := properB_three hp'
      rw [ov_yes hp hp']
      have HX1 := Lib.hid (fun W (h : (RdS W A (flat [p, q, r]) ∧ Rds W (lrow [p, q, r])) ∧ RdS W D (flat [u, v, s]) ∧ Rds W (lrow [u, v, s])) => spec_apart p q r u v s A D c d W hL hC h.1.1 h.1.2 hL' hC' h.2.1 h.2.2)
      have HX2 := Lib.hid (fun W (h : (RdS W A (flat [p, q, r]) ∧ Rds W (lrow [p, q, r])) ∧ RdS W D (flat [u, v, s]) ∧ Rds W (lrow [u, v, s])) => spec_apart u v s p q r D A d c W hL' hC' h.2.1 h.2.2 hL hC h.1.1 h.1.2)
      generalize sepB p q r u v s = b1 at HX1 ⊢
      generalize sepB u v s p q r = b2 at HX2 ⊢
      clear hn hL hC hA hR hn' hL' hC' hA' hR' hp hp'
      show Calls Tryz.prog 24 #[.slice A 3 c, .slice D 3 d] w (fun e w' => e = .returned (.bool (!b1 && !b2)) ∧ Below w.heap.size w w')
      go_enter Tryz.func24, Tryz.ntmps24
      go_wp2_with fail
      refine (HP1.out _ (RR.out _ (Below.refl _ _)).1.1 (RR.out _ (Below.refl _ _)).1.2).mono ?_
      rintro e W1 ⟨rfl, kb⟩
      go_wp2_with fail
      refine (HP2.out _ (RR.out _ kb).2.1 (RR.out _ kb).2.2).mono ?_
      rintro e W2 ⟨rfl, hb⟩
      replace kb := bt kb hb
      clear hb
      go_wp2_with fail
      refine (HX1.out _ (RR.out _ kb)).mono ?_
      rintro e W3 ⟨rfl, hb⟩
      replace kb := bt kb hb
      clear hb
      cases b1 with
      | true =>
        go_wp2
        go_ret
        exact ⟨rfl, kb⟩
      | false =>
        go_wp2_with fail
        refine (HX2.out _ (RR.out _ kb)).mono ?_
        rintro e W4 ⟨rfl, hb⟩
        replace kb := bt kb hb
        go_wp2
        go_ret
        exact ⟨by simp, kb⟩
end Go.Proofs.YtaohiacpdljacaaGreat

