/-
  The model's l12Full: a list of rows of valid fractions, or nil.
-/
import Derived.Test.YtppdholccpgcpaaGreatLawP
import Derived.Test.YtppdholccpgcpaaGreatElW
import Derived.Test.YtppdholccpgcpaaGreatLawXs
import Derived.Test.YtppdholccpgcpaaGreatRlE
import Derived.Test.YtppdholccpgcpaaGreatValS
import Derived.Test.YtppdholccpgcpaaGreatTriS
import Derived.Test.YtppdholccpgcpaaGreatMatF
namespace Go.Proofs.YtppdholccpgcpaaGreat
open Go.ChangeShapes Go.WideShapes Go.ChangeAt Go.RowKit
open Go.ChangeMaps (open_string shut_string)
set_option linter.unusedVariables false
set_option linter.unusedSimpArgs false
set_option maxRecDepth 4000
attribute [local go_sem ↓] Go.wp_at_zero Go.wp_at_succ
set_option maxHeartbeats 1000000 in
theorem spec_full_y (R : List SV) (A : Option Addr) (c : Nat) (w : World) (hn : R.length ≤ 9223372036854775807) (hS : ∀ p, p ∈ R → LenS p) (hA : RdS w A (flatS R)) (hR : Rds w (lrowS R)) (hv : fullB R = true) :
    Calls Tryz.prog 116 #[.slice A R.length c] w (fun e w' => e = .returned (.slice A R.length c) ∧ Below w.heap.size w w') := by
  have RA : Hid (∀ W, Below w.heap.size w W → RdS W A (flatS R) ∧ Rds W (lrowS R)) := Lib.hid (fun W hb => ⟨hA.below hb, hR.below hb⟩)
  have HV := Lib.hid hv
  have HS := Lib.hid hS
  obtain ⟨n, hnn⟩ : ∃ n, n = R.length := ⟨_, rfl⟩
  rw [← hnn] at hn ⊢
  have HN := Lib.hid hnn
  clear hnn hA hR hS hv
  go_enter Tryz.func116, Tryz.ntmps116
  go_wp2
  go_loopw [7] (fun k w' => ∃ j : Nat, j ≤ n ∧ k = .int .i64 (j : Int) ∧ fullB (R.take j) = true ∧ Below w.heap.size w w') (fun k _ => n - (intOf k).toNat)
  case atStart => exact ⟨0, Nat.zero_le _, rfl, rfl, Below.refl _ _⟩
  case round =>
    obtain ⟨j, hj, rfl, hf, kb⟩ := hrel
    by_cases hlt : j < n
    · obtain ⟨p, hp⟩ := getS (R := R) (i := j) (by rw [← HN.out]; exact hlt)
      obtain ⟨g, o, rfl, _, c0⟩ := (RA.out _ kb).1.row hp
      have hps := HS.out p (List.mem_of_getElem? hp)
      have hr := (RA.out _ kb).2.atS hp
      have HC := Lib.hid (spec_valid p.L p.A p.c wr hps.1 hps.2 hr.hd hr.tl)
      have HT := Lib.hid (fullB_take hp hf)
      have HY : Hid (fullB R = true → validB p.L = true) := Lib.hid (fun h => fullB_at h hp)
      generalize validB p.L = b at HC HT HY
      generalize p.L.length = m at HC c0
      have hi0 : (0 : Int) ≤ (j : Int) := by omega
      have hi1 : (j : Int) < (n : Int) := by omega
      clear hp hps hr hf
      go_wp2_with fail
      clear c0
      refine HC.out.mono ?_
      rintro e w2 ⟨rfl, hb⟩
      have k2 := bt kb hb
      clear hb kb
      cases b with
      | false =>
        exact absurd (HY.out HV.out) (by simp)
      | true =>
        have HT2 : Hid (fullB (R.take (j + 1)) = true) := Lib.hid (by simpa using HT.out)
        clear HT
        go_wp2
        go_roundw
        case rel => exact ⟨j + 1, hlt, by go_num, HT2.out, k2⟩
        case measure => simp [intOf]; omega
    · obtain rfl : j = n := by omega
      clear hf
      go_wp2
      go_ret
      exact ⟨rfl, kb⟩
set_option maxHeartbeats 1000000 in
theorem spec_full_n (R : List SV) (A : Option Addr) (c : Nat) (w : World) (hn : R.length ≤ 9223372036854775807) (hS : ∀ p, p ∈ R → LenS p) (hA : RdS w A (flatS R)) (hR : Rds w (lrowS R)) (hv : fullB R = false) :
    Calls Tryz.prog 116 #[.slice A R.length c] w (fun e w' => e = .returned (.slice none 0 0) ∧ Below w.heap.size w w') := by
  have RA : Hid (∀ W, Below w.heap.size w W → RdS W A (flatS R) ∧ Rds W (lrowS R)) := Lib.hid (fun W hb => ⟨hA.below hb, hR.below hb⟩)
  have HV := Lib.hid hv
  have HS := Lib.hid hS
  obtain ⟨n, hnn⟩ : ∃ n, n = R.length := ⟨_, rfl⟩
  rw [← hnn] at hn ⊢
  have HN := Lib.hid hnn
  clear hnn hA hR hS hv
  go_enter Tryz.func116, Tryz.ntmps116
  go_wp2
  go_loopw [7] (fun k w' => ∃ j : Nat, j ≤ n ∧ k = .int .i64 (j : Int) ∧ fullB (R.take j) = true ∧ Below w.heap.size w w') (fun k _ => n - (intOf k).toNat)
  case atStart => exact ⟨0, Nat.zero_le _, rfl, rfl, Below.refl _ _⟩
  case round =>
    obtain ⟨j, hj, rfl, hf, kb⟩ := hrel
    by_cases hlt : j < n
    · obtain ⟨p, hp⟩ := getS (R := R) (i := j) (by rw [← HN.out]; exact hlt)
      obtain ⟨g, o, rfl, _, c0⟩ := (RA.out _ kb).1.row hp
      have hps := HS.out p (List.mem_of_getElem? hp)
      have hr := (RA.out _ kb).2.atS hp
      have HC := Lib.hid (spec_valid p.L p.A p.c wr hps.1 hps.2 hr.hd hr.tl)
      have HT := Lib.hid (fullB_take hp hf)
      have HY : Hid (fullB R = true → validB p.L = true) := Lib.hid (fun h => fullB_at h hp)
      generalize validB p.L = b at HC HT HY
      generalize p.L.length = m at HC c0
      have hi0 : (0 : Int) ≤ (j : Int) := by omega
      have hi1 : (j : Int) < (n : Int) := by omega
      clear hp hps hr hf
      go_wp2_with fail
      clear c0
      refine HC.out.mono ?_
      rintro e w2 ⟨rfl, hb⟩
      have k2 := bt kb hb
      clear hb kb
      cases b with
      | false =>
        go_wp2
        go_ret
        exact ⟨rfl, k2⟩
      | true =>
        have HT2 : Hid (fullB (R.take (j + 1)) = true) := Lib.hid (by simpa using HT.out)
        clear HT
        go_wp2
        go_roundw
        case rel => exact ⟨j + 1, hlt, by go_num, HT2.out, k2⟩
        case measure => simp [intOf]; omega
    · obtain rfl : j = n := by omega
      rw [show R.take j = R by rw [HN.out, List.take_length], HV.out] at hf
      cases hf
end Go.Proofs.YtppdholccpgcpaaGreat
