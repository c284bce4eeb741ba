/-
  'FnExactNatOk' returns true, for every list of ints.
-/
import Derived.Test.YtcdibaomjojdcaaOk
namespace Go.Proofs.Ytcdibaomjojdcaa
open Go.ChangeShapes Go.WideShapes Go.ChangeAt Go.RowKit
open Go.ChangeMaps (open_string shut_string)
set_option linter.unusedVariables false
set_option linter.unusedSimpArgs false

set_option maxHeartbeats 800000 in
theorem law_natOk (l : List Int) (A : Option Addr) (n c : Nat) (w : World) (hl : l.length = n) (hn : n ≤ 9223372036854775807) (hA : RdS w A (vi l)) :
    Calls Try.prog 3 #[.slice A n c] w fun e w' => e = .returned (.bool true) ∧ Below w.heap.size w w' := by
  by_cases hg : n ≤ 1048576
  · have H1 : Hid (∀ W, RdS W A (vi l) → Calls Try.prog 13 #[.slice A n c] W fun e w' => ∃ g, e = .returned (.slice (some ⟨g, 0, none⟩) n n) ∧ OwnS W.heap.size w' (some ⟨g, 0, none⟩) (vi l) ∧ Below W.heap.size W w') := Lib.hid (fun W h => toIntS_any l A n c W hl hg h)
    have H2 := Lib.hid (fun g W h => spec_ok l (some ⟨g, 0, none⟩) n n W hl hn h)
    have H3 := Lib.hid (fun g W h => impl_ok l (some ⟨g, 0, none⟩) n n W hl hn h)
    have H4 := Lib.hid (fun g g' W h h' => eqIntS_same l (some ⟨g, 0, none⟩) (some ⟨g', 0, none⟩) n n n W hl (by omega) h h')
    clear hl
    generalize ok l = r at H2 H3
    go_enter Try.func3, Try.ntmps3
    go_wp2_with fail
    refine (H1.out _ hA).mono ?_
    rintro e w1 ⟨g1, rfl, own1, hb1⟩
    go_wp2_with fail
    refine (H2.out _ _ own1.rd).mono ?_
    rintro e w1' ⟨rfl, rfl⟩
    go_wp2_with fail
    refine (H1.out _ (hA.below hb1)).mono ?_
    rintro e w2 ⟨g2, rfl, own2, hb2⟩
    go_wp2_with fail
    refine (H3.out _ _ own2.rd).mono ?_
    rintro e w2' ⟨rfl, rfl⟩
    have q : (r != r) = false := by cases r <;> rfl
    go_wp2_with fail
    refine (H1.out _ ((hA.below hb1).below hb2)).mono ?_
    rintro e w3 ⟨g3, rfl, own3, hb3⟩
    go_wp2_with fail
    refine (H4.out _ _ _ (own2.below hb3).rd own3.rd).mono ?_
    rintro e w4 ⟨rfl, hb4⟩
    go_wp2
    go_ret
    exact ⟨rfl, bt (bt (bt hb1 hb2) hb3) hb4⟩
  · go_enter Try.func3, Try.ntmps3
    go_wp2
    go_ret
    exact ⟨rfl, Below.refl _ _⟩
end Go.Proofs.Ytcdibaomjojdcaa
