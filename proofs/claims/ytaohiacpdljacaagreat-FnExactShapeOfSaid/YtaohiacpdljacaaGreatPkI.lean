/-
  Fractions of the program and of the model: 'RatMake', 'RatOf', 'RatFromInt'.
-/
import Derived.Test.YtaohiacpdljacaaGreatPkH
import Derived.Test.YtaohiacpdljacaaGreatPkD
import Derived.Test.YtaohiacpdljacaaGreatShelf
namespace Go.Proofs.YtaohiacpdljacaaGreat
open Go.ChangeShapes Go.WideShapes Go.ChangeAt Go.RowKit
open Go.ChangeMaps (open_string shut_string)
set_option linter.unusedVariables false
set_option linter.unusedSimpArgs false
set_option maxRecDepth 4000

attribute [local go_sem ↓] Go.wp_at_zero Go.wp_at_succ

end Go.Proofs.YtaohiacpdljacaaGreat

namespace Go.Proofs.YtaohiacpdljacaaGreat
open Go.ChangeShapes Go.WideShapes Go.ChangeAt Go.RowKit
open Go.ChangeMaps (open_string shut_string)
set_option linter.unusedVariables false
set_option linter.unusedSimpArgs false
set_option maxRecDepth 4000

attribute [local go_sem ↓] Go.wp_at_zero Go.wp_at_succ

set_option maxHeartbeats 1000000 in
theorem impl_rfi (x : Int) (w : World) (h0 : -9223372036854775808 ≤ x ∧ x ≤ 9223372036854775807) :
    Calls Tryz.prog 12 #[.int .i64 x] w (MadeR w.heap.size (zn x) (zm x) (nd 1) w) := by
  have B1 := Lib.hid (fun W => impl_bof x W h0.1 h0.2)
  unfold MadeZ MadeB at B1
  have B2 := Lib.hid (fun W => show Calls Tryz.prog 37 #[.int .i64 1] W (MadeI W.heap.size (nd 1) W) from impl_natOf_int 1 W (by decide))
  generalize nd 1 = M at B2 ⊢
  generalize zm x = L at *
  generalize zn x = sg at *
  clear h0
  go_enter Tryz.func12, Tryz.ntmps12
  go_wp2_with fail
  have kb := ba1 w (.cells #[.bool false, .slice none 0 0, .slice none 0 0] 29)
  have P_o := heap_alloc_new w (.cells #[.bool false, .slice none 0 0, .slice none 0 0] 29)
  generalize w.alloc (.cells #[.bool false, .slice none 0 0, .slice none 0 0] 29) = W1 at kb P_o ⊢
  have hlo := rblk_lt P_o
  refine (B1.out _).mono ?_
  rintro e W2 ⟨A1, c1, rfl, hc1, o1, hb⟩
  replace P_o := rblk_below P_o hb
  replace kb := bt kb hb
  clear hb
  go_wp2_with fail
  have hlp := rblk_lt P_o
  have i1 := o1.inR (vi_length L)
  refine (B2.out _).mono ?_
  rintro e W3 ⟨A2, c2, rfl, hc2, o2, hb⟩
  replace P_o := rblk_below P_o hb
  replace o1 := o1.below hb
  replace kb := bt kb hb
  clear hb
  have hap := i1.apart (o2.inR (vi_length M)) (.inl (Nat.le_refl _))
  have c_o0 : W3.cell? ⟨w.heap.size, 0, none⟩ = some (.bool false) := rblk_cell P_o 0
  have c_o1 : W3.cell? ⟨w.heap.size, 1, none⟩ = some (.slice none 0 0) := rblk_cell P_o 1
  have c_o2 : W3.cell? ⟨w.heap.size, 2, none⟩ = some (.slice none 0 0) := rblk_cell P_o 2
  have f_o0 := rblk_free P_o 0
  have f_o1 := rblk_free P_o 1
  have f_o2 := rblk_free P_o 2
  go_wp2
  exact bodyPost_ret (v := .agg #[.bool sg, .slice A1 L.length c1, .slice A2 M.length c2]) (by simp [results, Tryz.results12, go_sem, c_o0, c_o1, c_o2]) rfl ⟨A1, c1, A2, c2, rfl, hc1, hc2, (own_put3 o1 hlo _ _ _).more (Nat.le_of_lt hlo), (own_put3 o2 hlp _ _ _).more (Nat.le_of_lt hlp), hap, below_put3 kb (Nat.le_refl _) _ _ _⟩

end Go.Proofs.YtaohiacpdljacaaGreat


