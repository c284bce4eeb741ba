/-
  The gradient of a linear function: words for both.
-/
import Derived.Test.YtppdholccpgcpaaGreatWp
import Derived.Test.YtppdholccpgcpaaGreatShC
import Derived.Test.YtppdholccpgcpaaGreatValS
import Derived.Test.YtppdholccpgcpaaGreatLawXs
import Derived.Test.YtppdholccpgcpaaGreatGrM
import Derived.Test.YtppdholccpgcpaaGreatWg
import Derived.Test.YtppdholccpgcpaaGreatTriS
import Derived.Test.YtppdholccpgcpaaGreatMatF
namespace Go.Proofs.YtppdholccpgcpaaGreat
open Go.ChangeShapes Go.WideShapes Go.ChangeAt Go.RowKit
set_option linter.unusedVariables false
set_option linter.unusedSimpArgs false
set_option maxRecDepth 4000
theorem tri_dats {L M : List PV} (h : dat M = dat L) : ((tri1 M).x = (tri1 L).x ∧ (tri1 M).y = (tri1 L).y) ∧ ((tri2 M).x = (tri2 L).x ∧ (tri2 M).y = (tri2 L).y) ∧ (tri3 M).x = (tri3 L).x ∧ (tri3 M).y = (tri3 L).y := by
  cases hp : properB L with
  | false =>
    obtain ⟨e1, e2, e3⟩ := tri_no hp
    obtain ⟨f1, f2, f3⟩ := tri_no (L := M) (by rw [properB_dat h]; exact hp)
    rw [e1, e2, e3, f1, f2, f3]; exact ⟨⟨rfl, rfl⟩, ⟨rfl, rfl⟩, rfl, rfl⟩
  | true =>
    have hp' : properB M = true := by rw [properB_dat h]; exact hp
    obtain ⟨p, q, r, rfl, _, _⟩ := properB_three hp
    obtain ⟨p', q', r', rfl, ⟨a1, a2⟩, ⟨a3, a4⟩, a5, a6⟩ := dat_three h
    obtain ⟨e1, e2, e3⟩ := tri_yes hp
    obtain ⟨f1, f2, f3⟩ := tri_yes hp'
    rw [e1, e2, e3, f1, f2, f3]; exact ⟨⟨a1, a2⟩, ⟨a3, a4⟩, a5, a6⟩
theorem gradL_dats {L M : List PV} (h : dat M = dat L) : gradL M = gradL L := by
  obtain ⟨⟨a1, a2⟩, ⟨b1, b2⟩, c1, c2⟩ := tri_dats h
  unfold gradL gradV tX tY nX nY
  rw [aT_dat h, a1, a2, b1, b2, c1, c2]
theorem grad_len (L : List PV) : ∀ p, p ∈ gradL L → LenP p := by
  have K : ∀ (a b : Option Rat), FitO a → FitO b → LenP ⟨ofO a, ofO b, noA, noA⟩ := fun a b ha hb => by
    have h1 := ha.len
    have h2 := hb.len
    exact ⟨⟨by show (ofO a).l.length ≤ _; omega, by show (ofO a).m.length ≤ _; omega⟩, by show (ofO b).l.length ≤ _; omega, by show (ofO b).m.length ≤ _; omega⟩
  intro p hp
  unfold gradL gradV gl3 at hp
  split at hp
  · simp only [List.mem_cons, List.not_mem_nil, or_false] at hp
    rcases hp with rfl | rfl | rfl <;> exact K _ _ (tX_fit _ _ _) (tY_fit _ _ _)
  · cases hp
end Go.Proofs.YtppdholccpgcpaaGreat
namespace Go.Proofs.YtppdholccpgcpaaGreat
open Go.ChangeShapes Go.WideShapes Go.ChangeAt Go.RowKit
set_option linter.unusedVariables false
set_option linter.unusedSimpArgs false
set_option maxRecDepth 4000
theorem run_idx3 (g0 g1 g2 : PV) {j : Nat} {x : PV} (h : [g0, g1, g2][j]? = some x) (w : World) : (Instr.index 80 (.agg (p18 g0 g1 g2)) (.int .i64 (j : Int))).run Tryz.prog w = .ok (.agg (p6 x)) w := by
  match j, h with
  | 0, h => obtain rfl : g0 = x := by simpa using h
            simp [Instr.index, asIntOf, run_underlying Tryz.underlying80, Go.part, pt_agg, run_size pt_size]
  | 1, h => obtain rfl : g1 = x := by simpa using h
            simp [Instr.index, asIntOf, run_underlying Tryz.underlying80, Go.part, pt_agg, run_size pt_size]
  | 2, h => obtain rfl : g2 = x := by simpa using h
            simp [Instr.index, asIntOf, run_underlying Tryz.underlying80, Go.part, pt_agg, run_size pt_size]
theorem gD_nice (p q r : PV) : ∀ (j : Nat) (x y : R3), (gD p q r)[j]? = some (x, y) → (x = ofO (valx x) ∧ y = ofO (valx y)) ∧ (valx x = none ∨ valx y = none → valx x = none ∧ valx y = none) := by
  have K : ∀ j, (ofO (gU p q r j) = ofO (valx (ofO (gU p q r j))) ∧ ofO (gV p q r j) = ofO (valx (ofO (gV p q r j)))) ∧ (valx (ofO (gU p q r j)) = none ∨ valx (ofO (gV p q r j)) = none → valx (ofO (gU p q r j)) = none ∧ valx (ofO (gV p q r j)) = none) := fun j => by
    rw [valx_ofO (gU_fit p q r j), valx_ofO (gV_fit p q r j)]
    refine ⟨⟨rfl, rfl⟩, ?_⟩
    unfold gU gV tX tY
    generalize binQ mulQ _ (nX _ _) = a
    generalize binQ mulQ _ (nY _ _) = b
    intro h
    cases a with
    | none => rw [(both_n1 b).1, (both_n1 b).2]; exact ⟨rfl, rfl⟩
    | some a =>
      cases b with
      | none => rw [(both_n2 (some a)).1, (both_n2 (some a)).2]; exact ⟨rfl, rfl⟩
      | some b => rcases h with h | h <;> cases h
  intro j x y h
  have hj : j < 3 := (List.getElem?_eq_some_iff.1 h).1
  have hc : j = 0 ∨ j = 1 ∨ j = 2 := by omega
  rcases hc with rfl | rfl | rfl
  · have e : (x, y) = (ofO (gU p q r 0), ofO (gV p q r 0)) := Option.some.inj (h.symm.trans rfl)
    rw [(Prod.mk.inj e).1, (Prod.mk.inj e).2]; exact K 0
  · have e : (x, y) = (ofO (gU p q r 1), ofO (gV p q r 1)) := Option.some.inj (h.symm.trans rfl)
    rw [(Prod.mk.inj e).1, (Prod.mk.inj e).2]; exact K 1
  · have e : (x, y) = (ofO (gU p q r 2), ofO (gV p q r 2)) := Option.some.inj (h.symm.trans rfl)
    rw [(Prod.mk.inj e).1, (Prod.mk.inj e).2]; exact K 2
attribute [local go_sem ↓] Go.wp_at_zero Go.wp_at_succ
end Go.Proofs.YtppdholccpgcpaaGreat
namespace Go.Proofs.YtppdholccpgcpaaGreat
open Go.ChangeShapes Go.WideShapes Go.ChangeAt Go.RowKit
set_option linter.unusedVariables false
set_option linter.unusedSimpArgs false
set_option maxRecDepth 4000
attribute [local go_sem ↓] Go.wp_at_zero Go.wp_at_succ
set_option maxHeartbeats 1000000 in
theorem spec_full_y (R : List SV) (A : Option Addr) (c : Nat) (w : World) (hn : R.length ≤ 9223372036854775807) (hS : ∀ p, p ∈ R → LenS p) (hA : RdS w A (flatS R)) (hR : Rds w (lrowS R)) (hv : fullB R = true) :
    Calls Tryz.prog 116 #[.slice A R.length c] w (fun e w' => e = .returned (.slice A R.length c) ∧ Below w.heap.size w w') := by
  have RA : Hid (∀ W, Below w.heap.size w W → RdS W A (flatS R) ∧ Rds W (lrowS R)) := Lib.hid (fun W hb => ⟨hA.below hb, hR.below hb⟩)
  have HV := Lib.hid hv
  have HS := Lib.hid hS
  obtain ⟨n, hnn⟩ : ∃ n, n = R.length := ⟨_, rfl⟩
  rw [← hnn] at hn ⊢
  have HN := Lib.hid hnn
  clear hnn hA hR hS hv
  go_enter Tryz.func116, Tryz.ntmps116
  go_wp2
  go_loopw [7] (fun k w' => ∃ j : Nat, j ≤ n ∧ k = .int .i64 (j : Int) ∧ fullB (R.take j) = true ∧ Below w.heap.size w w') (fun k _ => n - (intOf k).toNat)
  case atStart => exact ⟨0, Nat.zero_le _, rfl, rfl, Below.refl _ _⟩
  case round =>
    obtain ⟨j, hj, rfl, hf, kb⟩ := hrel
    by_cases hlt : j < n
    · obtain ⟨p, hp⟩ := getS (R := R) (i := j) (by rw [← HN.out]; exact hlt)
      obtain ⟨g, o, rfl, _, c0⟩ := (RA.out _ kb).1.row hp
      have hps := HS.out p (List.mem_of_getElem? hp)
      have hr := (RA.out _ kb).2.atS hp
      have HC := Lib.hid (spec_valid p.L p.A p.c wr hps.1 hps.2 hr.hd hr.tl)
      have HT := Lib.hid (fullB_take hp hf)
      have HY : Hid (fullB R = true → validB p.L = true) := Lib.hid (fun h => fullB_at h hp)
      generalize validB p.L = b at HC HT HY
      generalize p.L.length = m at HC c0
      have hi0 : (0 : Int) ≤ (j : Int) := by omega
      have hi1 : (j : Int) < (n : Int) := by omega
      clear hp hps hr hf
      go_wp2_with fail
      clear c0
      refine HC.out.mono ?_
      rintro e w2 ⟨rfl, hb⟩
      have k2 := bt kb hb
      clear hb kb
      cases b with
      | false =>
        exact absurd (HY.out HV.out) (by simp)
      | true =>
        have HT2 : Hid (fullB (R.take (j + 1)) = true) := Lib.hid (by simpa using HT.out)
        clear HT
        go_wp2
        go_roundw
        case rel => exact ⟨j + 1, hlt, by go_num, HT2.out, k2⟩
        case measure => simp [intOf]; omega
    · obtain rfl : j = n := by omega
      clear hf
      go_wp2
      go_ret
      exact ⟨rfl, kb⟩
set_option maxHeartbeats 1000000 in
theorem spec_full_n (R : List SV) (A : Option Addr) (c : Nat) (w : World) (hn : R.length ≤ 9223372036854775807) (hS : ∀ p, p ∈ R → LenS p) (hA : RdS w A (flatS R)) (hR : Rds w (lrowS R)) (hv : fullB R = false) :
    Calls Tryz.prog 116 #[.slice A R.length c] w (fun e w' => e = .returned (.slice none 0 0) ∧ Below w.heap.size w w') := by
  have RA : Hid (∀ W, Below w.heap.size w W → RdS W A (flatS R) ∧ Rds W (lrowS R)) := Lib.hid (fun W hb => ⟨hA.below hb, hR.below hb⟩)
  have HV := Lib.hid hv
  have HS := Lib.hid hS
  obtain ⟨n, hnn⟩ : ∃ n, n = R.length := ⟨_, rfl⟩
  rw [← hnn] at hn ⊢
  have HN := Lib.hid hnn
  clear hnn hA hR hS hv
  go_enter Tryz.func116, Tryz.ntmps116
  go_wp2
  go_loopw [7] (fun k w' => ∃ j : Nat, j ≤ n ∧ k = .int .i64 (j : Int) ∧ fullB (R.take j) = true ∧ Below w.heap.size w w') (fun k _ => n - (intOf k).toNat)
  case atStart => exact ⟨0, Nat.zero_le _, rfl, rfl, Below.refl _ _⟩
  case round =>
    obtain ⟨j, hj, rfl, hf, kb⟩ := hrel
    by_cases hlt : j < n
    · obtain ⟨p, hp⟩ := getS (R := R) (i := j) (by rw [← HN.out]; exact hlt)
      obtain ⟨g, o, rfl, _, c0⟩ := (RA.out _ kb).1.row hp
      have hps := HS.out p (List.mem_of_getElem? hp)
      have hr := (RA.out _ kb).2.atS hp
      have HC := Lib.hid (spec_valid p.L p.A p.c wr hps.1 hps.2 hr.hd hr.tl)
      have HT := Lib.hid (fullB_take hp hf)
      have HY : Hid (fullB R = true → validB p.L = true) := Lib.hid (fun h => fullB_at h hp)
      generalize validB p.L = b at HC HT HY
      generalize p.L.length = m at HC c0
      have hi0 : (0 : Int) ≤ (j : Int) := by omega
      have hi1 : (j : Int) < (n : Int) := by omega
      clear hp hps hr hf
      go_wp2_with fail
      clear c0
      refine HC.out.mono ?_
      rintro e w2 ⟨rfl, hb⟩
      have k2 := bt kb hb
      clear hb kb
      cases b with
      | false =>
        go_wp2
        go_ret
        exact ⟨rfl, k2⟩
      | true =>
        have HT2 : Hid (fullB (R.take (j + 1)) = true) := Lib.hid (by simpa using HT.out)
        clear HT
        go_wp2
        go_roundw
        case rel => exact ⟨j + 1, hlt, by go_num, HT2.out, k2⟩
        case measure => simp [intOf]; omega
    · obtain rfl : j = n := by omega
      rw [show R.take j = R by rw [HN.out, List.take_length], HV.out] at hf
      cases hf
end Go.Proofs.YtppdholccpgcpaaGreat
