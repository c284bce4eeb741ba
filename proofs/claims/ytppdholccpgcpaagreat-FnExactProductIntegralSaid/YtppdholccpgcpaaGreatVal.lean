/-
  Two arrays of three arrays of three bools compared.
-/
import Derived.Test.YtppdholccpgcpaaGreatArQ
import Derived.Test.YtppdholccpgcpaaGreatRl
import Derived.Test.YtppdholccpgcpaaGreatPkF
import Derived.Test.YtppdholccpgcpaaGreatStore
import Derived.Test.YtppdholccpgcpaaGreatTk
import Derived.Test.YtppdholccpgcpaaGreatTriI
import Derived.Deep.MidRow
import Derived.Deep.RegionHeld3
import Derived.Test.YtppdholccpgcpaaGreatLmM
import Derived.Test.YtppdholccpgcpaaGreatMsI
import Derived.Test.YtppdholccpgcpaaGreatAppG
import Derived.Test.YtppdholccpgcpaaGreatElW
import Derived.Test.YtppdholccpgcpaaGreatTriS
import Derived.Test.YtppdholccpgcpaaGreatPkH
import Derived.Test.YtppdholccpgcpaaGreatPkI
import Derived.Test.YtppdholccpgcpaaGreatTriA
import Derived.Test.YtppdholccpgcpaaGreatInS
import Derived.Test.YtppdholccpgcpaaGreatPtJ
namespace Go.Proofs.YtppdholccpgcpaaGreat
open Go.ChangeShapes Go.WideShapes Go.ChangeAt Go.RowKit
open Go.ChangeMaps (open_string shut_string)
set_option linter.unusedVariables false
set_option linter.unusedSimpArgs false
set_option maxRecDepth 4000
theorem b3_agg (w : World) : (isAgg 168).run Tryz.prog w = .ok true w := by simp [isAgg, run_underlying Tryz.underlying168]
theorem b1_agg (w : World) : (isAgg 4).run Tryz.prog w = .ok false w := by simp [isAgg, run_underlying Tryz.underlying4]
end Go.Proofs.YtppdholccpgcpaaGreat
namespace Go.Proofs.YtppdholccpgcpaaGreat
open Go.ChangeShapes Go.WideShapes Go.ChangeAt Go.RowKit
open Go.ChangeMaps (open_string shut_string)
set_option linter.unusedVariables false
set_option linter.unusedSimpArgs false
set_option maxRecDepth 4000
attribute [local go_sem ↓] Go.wp_at_zero Go.wp_at_succ
theorem mass_same (L : List PV) : massF L = mF (tri1 L) (tri2 L) (tri3 L) := by
  funext i j
  unfold massF areaQ mF aHalf aT
  rfl
theorem okF_no {F : Nat → Nat → Option Rat} {i : Nat} (hi : i < 3) (h : F i i = none) : okF F 3 3 = false := by
  cases hk : okF F 3 3 with
  | false => rfl
  | true =>
    unfold okF at hk
    have h1 := List.all_eq_true.1 hk i (List.mem_range.2 hi)
    have h2 := List.all_eq_true.1 h1 i (List.mem_range.2 hi)
    rw [h] at h2; cases h2
end Go.Proofs.YtppdholccpgcpaaGreat
namespace Go.Proofs.YtppdholccpgcpaaGreat
open Go.ChangeShapes Go.WideShapes Go.ChangeAt Go.RowKit
open Go.ChangeMaps (open_string shut_string)
set_option linter.unusedVariables false
set_option linter.unusedSimpArgs false
set_option maxRecDepth 4000
attribute [local go_sem ↓] Go.wp_at_zero Go.wp_at_succ
set_option maxHeartbeats 1000000 in
theorem spec_ok12 (L : List PV) (A : Option Addr) (c : Nat) (U : List RV) (D : Option Addr) (d : Nat) (w : World) (hn : L.length ≤ 9223372036854775807) (hL : ∀ p, p ∈ L → LenP p) (hC : ∀ p, p ∈ L → CapP p) (hA : RdS w A (flat L)) (hR : Rds w (lrow L))
    (hn' : U.length ≤ 9223372036854775807) (hL' : ∀ p, p ∈ U → LenQ p) (hA' : RdS w D (flatQ U)) (hR' : Rds w (lrowQ U)) :
    Calls Tryz.prog 108 #[.slice A L.length c, .slice D U.length d] w (fun e w' => e = .returned (.bool (ok12 L U)) ∧ Below w.heap.size w w') := by
  have HP : Hid (∀ W, Below w.heap.size w W → Calls Tryz.prog 99 #[.slice A L.length c] W (fun e w' => e = .returned (.bool (properB L)) ∧ Below W.heap.size W w')) := Lib.hid (fun W hb => spec_proper L A c W hn hL hC (hA.below hb) (hR.below hb))
  have HV : Hid (∀ W, Below w.heap.size w W → Calls Tryz.prog 171 #[.slice D U.length d] W (fun e w' => e = .returned (.bool (validB U)) ∧ Below W.heap.size W w')) := Lib.hid (fun W hb => spec_valid U D d W hn' hL' (hA'.below hb) (hR'.below hb))
  unfold ok12
  generalize properB L = b at HP ⊢
  generalize validB U = v at HV ⊢
  generalize L.length = n at HP ⊢
  clear hn hL hC hA hR hL' hA' hR'
  generalize U.length = m at HV hn' ⊢
  cases b with
  | false =>
    go_enter Tryz.func108, Tryz.ntmps108
    go_wp2_with fail
    refine (HP.out _ (Below.refl _ _)).mono ?_
    rintro e w2 ⟨rfl, hb⟩
    go_wp2
    go_ret
    exact ⟨rfl, hb⟩
  | true =>
    by_cases h3 : m = 3
    · subst h3
      have q : ((3 : Int) == 3) = true := rfl
      go_enter Tryz.func108, Tryz.ntmps108
      go_wp2_with fail
      refine (HP.out _ (Below.refl _ _)).mono ?_
      rintro e w2 ⟨rfl, hb⟩
      go_wp2_with fail
      refine (HV.out _ hb).mono ?_
      rintro e w3 ⟨rfl, hb2⟩
      go_wp2
      go_ret
      exact ⟨by simp, bt hb hb2⟩
    · have q : ((m : Int) == 3) = false := by rw [beq_eq_false_iff_ne]; omega
      go_enter Tryz.func108, Tryz.ntmps108
      go_wp2_with fail
      refine (HP.out _ (Below.refl _ _)).mono ?_
      rintro e w2 ⟨rfl, hb⟩
      go_wp2
      go_ret
      exact ⟨by simp [h3], hb⟩
end Go.Proofs.YtppdholccpgcpaaGreat
