/-
  'FnExactNatOf' returns true, for every int.
-/
import Derived.Test.YtcdibaomjojdcaaNatOfS
import Derived.Test.YtcdibaomjojdcaaAtL
namespace Go.Proofs.Ytcdibaomjojdcaa
open Go.ChangeShapes Go.WideShapes Go.ChangeAt Go.RowKit
open Go.ChangeMaps (open_string shut_string)
set_option linter.unusedVariables false
set_option linter.unusedSimpArgs false

set_option maxHeartbeats 1600000 in
theorem law_natOf (x : Int) (w : World) (hx : (Lit.int .i64 x).wf = true) :
    Calls Try.prog 4 #[.int .i64 x] w fun e w' => e = .returned (.bool true) ∧ Below w.heap.size w w' := by
  have hbd : -9223372036854775808 ≤ x ∧ x ≤ 9223372036854775807 := by simpa [Lit.wf, IntKind.min, IntKind.max, IntKind.signed, IntKind.bits] using hx
  have hx1 := hbd.2
  have hl3 := ln_small x.toNat (by omega)
  have HS := Lib.hid (fun W => spec_natOf_int x W hx1)
  have HI := Lib.hid (fun W => impl_natOf_int x W hx1)
  have hlen : (nd x.toNat).length ≤ 1048576 := by rw [nd_length]; omega
  clear hx hl3 hbd
  generalize nd x.toNat = L at HS HI hlen
  have HE := eq_at L hlen
  have HM := mark_at L hlen
  have HH := held_at L.length hlen
  have hl0 := mk1_pos L.length
  go_enter Try.func4, Try.ntmps4
  go_wp2_with fail
  refine (HS.out _).mono ?_
  rintro e w1 ⟨A0, c0, rfl, hc0, own0, hb1⟩
  go_wp2_with fail
  refine (HI.out _).mono ?_
  rintro e w2 ⟨A1, c1, rfl, hc1, own1, hb2⟩
  go_wp2_with fail
  refine (HE.out _ _ _ _ _ own1.rd (own0.below hb2).rd).mono ?_
  rintro e w3 ⟨rfl, hb3⟩
  go_wp2_with fail
  refine (HM.out w1.heap.size _ _ _ (own1.below hb3)).mono ?_
  rintro e w4 ⟨rfl, own4, hg4⟩
  have hb4 : Below w1.heap.size w3 w4 := below_of_grown hg4 (Nat.le_trans hb2.size hb3.size) (row_at own1)
  clear hg4
  go_wp2_with fail
  refine (HH.out _ _ _ own4.rd).mono ?_
  rintro e w5 ⟨rfl, hb5⟩
  go_wp2_with fail
  refine (HI.out _).mono ?_
  rintro e w6 ⟨A2, c2, rfl, hc2, own2, hb6⟩
  have hb16 : Below w1.heap.size w1 w6 := ((hb2.trans (hb3.mono hb2.size)).trans hb4).trans ((hb5.trans (hb6.mono hb5.size)).mono (Nat.le_trans (Nat.le_trans hb2.size hb3.size) hb4.size))
  have own6 := own4.below (hb5.trans (hb6.mono hb5.size))
  go_wp2_with fail
  refine (HE.out _ _ _ _ _ own2.rd (own0.below hb16).rd).mono ?_
  rintro e w7 ⟨rfl, hb7⟩
  go_wp2_with fail
  refine (HH.out _ _ _ (own6.below hb7).rd).mono ?_
  rintro e w8 ⟨rfl, hb8⟩
  go_wp2
  go_ret
  exact ⟨rfl, hb1.trans ((hb16.trans ((hb7.trans (hb8.mono hb7.size)).mono hb16.size)).mono hb1.size)⟩
end Go.Proofs.Ytcdibaomjojdcaa
