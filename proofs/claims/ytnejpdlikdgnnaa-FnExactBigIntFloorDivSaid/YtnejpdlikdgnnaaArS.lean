/-
  The model's own functions over rows: 'l02Trim', 'l02Cap', 'l02Add', 'l02Sub'.
-/
import Derived.Test.YtnejpdlikdgnnaaArM
import Derived.Test.YtnejpdlikdgnnaaNatOfS
import Derived.Test.YtnejpdlikdgnnaaTrim
namespace Go.Proofs.Ytnejpdlikdgnnaa
open Go.ChangeShapes Go.WideShapes Go.ChangeAt Go.RowKit
open Go.ChangeMaps (open_string shut_string)
set_option linter.unusedVariables false
set_option linter.unusedSimpArgs false

set_option maxHeartbeats 400000 in
theorem cap_any (B n c T : Nat) (A : Option Addr) (w : World) (ho : OwnS B w A (vi (row n T))) (hT : ln T ≤ n) (hc : n ≤ c) (hn : n ≤ 1048576) :
    Calls Try.prog 67 #[.slice A n c] w (MadeI B (cap60 T) w) := by
  have H := Lib.hid (trim_any B n c T A w ho hT hc hn)
  clear ho
  have hl : (nd T).length ≤ n := by rw [nd_length]; exact hT
  by_cases h60 : ln T ≤ 60
  · have hl60 : (nd T).length ≤ 60 := by rw [nd_length]; exact h60
    rw [cap60_in h60]
    clear hT h60
    generalize nd T = L at H hl hl60
    go_enter Try.func67, Try.ntmps67
    go_wp2_with fail
    refine H.out.mono ?_
    rintro e w1 ⟨A', c', rfl, hc', ho', hb'⟩
    go_wp2
    go_ret
    exact ⟨A', c', rfl, hc', ho', hb'⟩
  · have hl60 : 60 < (nd T).length := by rw [nd_length]; omega
    rw [cap60_out (by omega)]
    clear hT h60
    generalize nd T = L at H hl hl60
    go_enter Try.func67, Try.ntmps67
    go_wp2_with fail
    refine H.out.mono ?_
    rintro e w1 ⟨A', c', rfl, hc', ho', hb'⟩
    go_wp2
    go_ret
    exact (MadeI.nil B w1).after hb'
end Go.Proofs.Ytnejpdlikdgnnaa
