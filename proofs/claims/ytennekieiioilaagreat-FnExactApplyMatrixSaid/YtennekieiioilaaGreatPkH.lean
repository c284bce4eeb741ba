/-
  Fractions of the model: 'l04Neg', 'l04Add', 'l04Mul', 'RatDiv', 'l04Copy' and what stands on them.
-/
import Derived.Test.YtennekieiioilaaGreatPkE
import Derived.Deep.DrawnRows
import Derived.Test.YtennekieiioilaaGreatPkF
namespace Go.Proofs.YtennekieiioilaaGreat
open Go.ChangeShapes Go.WideShapes Go.ChangeAt Go.RowKit
open Go.ChangeMaps (open_string shut_string)
set_option linter.unusedVariables false
set_option linter.unusedSimpArgs false
set_option maxRecDepth 4000

attribute [local go_sem ↓] Go.wp_at_zero Go.wp_at_succ
theorem zn_neg (z : Int) : ((!(zn z)) && decide (nd z.natAbs ≠ [])) = zn (-z) := by
  unfold zn
  by_cases h : z = 0
  · subst h; rw [show (0 : Int).natAbs = 0 from rfl, nd_zero]; rfl
  · rw [decide_eq_true (nd_pos (by omega)), Bool.and_true]
    by_cases h1 : z < 0
    · rw [decide_eq_true h1, decide_eq_false (by omega)]; rfl
    · rw [decide_eq_false h1, decide_eq_true (by omega)]; rfl

end Go.Proofs.YtennekieiioilaaGreat

namespace Go.Proofs.YtennekieiioilaaGreat
open Go.ChangeShapes Go.WideShapes Go.ChangeAt Go.RowKit
open Go.ChangeMaps (open_string shut_string)
set_option linter.unusedVariables false
set_option linter.unusedSimpArgs false
set_option maxRecDepth 4000

attribute [local go_sem ↓] Go.wp_at_zero Go.wp_at_succ

theorem low_div (r s : Rat) : lowQ (!(zn r.num == zn s.num)) (r.num.natAbs * s.den) (r.den * s.num.natAbs) = quoQ r s := by
  unfold lowQ quoQ
  by_cases h : s.num = 0
  · rw [if_pos h, h, show (0 : Int).natAbs = 0 from rfl, Nat.mul_zero, if_pos rfl]
  · rw [if_neg h, if_neg (Nat.mul_ne_zero r.den_nz (by omega)), div_q h]
    congr 2
    have h1 := sgn_mul r.num s.den
    cases hz : zn s.num with
    | false =>
      rw [if_neg (by decide), ← h1]
      cases zn r.num <;> rfl
    | true =>
      rw [if_pos rfl, ← h1]
      unfold sgn
      cases zn r.num <;> simp
end Go.Proofs.YtennekieiioilaaGreat

namespace Go.Proofs.YtennekieiioilaaGreat
open Go.ChangeShapes Go.WideShapes Go.ChangeAt Go.RowKit
open Go.ChangeMaps (open_string shut_string)
set_option linter.unusedVariables false
set_option linter.unusedSimpArgs false
set_option maxRecDepth 4000

attribute [local go_sem ↓] Go.wp_at_zero Go.wp_at_succ

end Go.Proofs.YtennekieiioilaaGreat

namespace Go.Proofs.YtennekieiioilaaGreat
open Go.ChangeShapes Go.WideShapes Go.ChangeAt Go.RowKit
open Go.ChangeMaps (open_string shut_string)
set_option linter.unusedVariables false
set_option linter.unusedSimpArgs false
set_option maxRecDepth 4000

attribute [local go_sem ↓] Go.wp_at_zero Go.wp_at_succ

/-- The sign of a fraction; 0 where it is none. -/
def sgnO (x : Option Rat) : Int := match x with
  | some r => cmpZ r.num 0
  | none => 0
set_option maxHeartbeats 1000000 in
theorem srs_no (pr : Bool) (l m : List Int) (A D : Option Addr) (n k c d : Nat) (w : World) (hl : l.length = n) (hm : m.length = k) (hn : n ≤ 9223372036854775807) (hk : k ≤ 9223372036854775807) (hA : RdS w A (vi l)) (hD : RdS w D (vi m)) (h1 : okR pr l m = false) :
    Calls Tryz.prog 51 #[.agg #[.bool pr, .slice A n c, .slice D k d]] w fun e w' => e = .returned (.int .i64 0) ∧ Below w.heap.size w w' := by
  have H1 := Lib.hid (fun W h h' => spec_rok pr l m A D n c k d W hl hm hn hk h h')
  rw [h1] at H1
  have RR : Hid (∀ W, Below w.heap.size w W → RdS W A (vi l) ∧ RdS W D (vi m)) := Lib.hid (fun W hb => ⟨hA.below hb, hD.below hb⟩)
  clear h1 hA hD hl hm hn hk
  go_enter Tryz.func51, Tryz.ntmps51
  go_wp2_with fail
  have kb := ba1 w (.cells #[.bool pr, .slice A n c, .slice D k d] 30)
  have P_r := heap_alloc_new w (.cells #[.bool pr, .slice A n c, .slice D k d] 30)
  generalize w.alloc (.cells #[.bool pr, .slice A n c, .slice D k d] 30) = W1 at kb P_r ⊢
  refine (H1.out _ (RR.out _ kb).1 (RR.out _ kb).2).mono ?_
  rintro e W2 ⟨rfl, hb⟩
  replace P_r := rblk_below P_r hb
  replace kb := bt kb hb
  clear hb
  have c_r0 : W2.cell? ⟨w.heap.size, 0, none⟩ = some (.bool pr) := rblk_cell P_r 0
  have c_r1 : W2.cell? ⟨w.heap.size, 1, none⟩ = some (.slice A n c) := rblk_cell P_r 1
  have c_r2 : W2.cell? ⟨w.heap.size, 2, none⟩ = some (.slice D k d) := rblk_cell P_r 2
  go_wp2
  go_ret
  exact ⟨rfl, kb⟩

set_option maxHeartbeats 1000000 in
theorem srs_zero (pr : Bool) (l m : List Int) (A D : Option Addr) (k c d : Nat) (w : World) (hl : l.length = 0) (hm : m.length = k) (hk : k ≤ 9223372036854775807) (hA : RdS w A (vi l)) (hD : RdS w D (vi m)) (h1 : okR pr l m = true) :
    Calls Tryz.prog 51 #[.agg #[.bool pr, .slice A 0 c, .slice D k d]] w fun e w' => e = .returned (.int .i64 0) ∧ Below w.heap.size w w' := by
  have H1 := Lib.hid (fun W h h' => spec_rok pr l m A D 0 c k d W hl hm (by omega) hk h h')
  rw [h1] at H1
  have RR : Hid (∀ W, Below w.heap.size w W → RdS W A (vi l) ∧ RdS W D (vi m)) := Lib.hid (fun W hb => ⟨hA.below hb, hD.below hb⟩)
  clear h1 hA hD hl hm hk
  go_enter Tryz.func51, Tryz.ntmps51
  go_wp2_with fail
  have kb := ba1 w (.cells #[.bool pr, .slice A 0 c, .slice D k d] 30)
  have P_r := heap_alloc_new w (.cells #[.bool pr, .slice A 0 c, .slice D k d] 30)
  generalize w.alloc (.cells #[.bool pr, .slice A 0 c, .slice D k d] 30) = W1 at kb P_r ⊢
  refine (H1.out _ (RR.out _ kb).1 (RR.out _ kb).2).mono ?_
  rintro e W2 ⟨rfl, hb⟩
  replace P_r := rblk_below P_r hb
  replace kb := bt kb hb
  clear hb
  have c_r0 : W2.cell? ⟨w.heap.size, 0, none⟩ = some (.bool pr) := rblk_cell P_r 0
  have c_r1 : W2.cell? ⟨w.heap.size, 1, none⟩ = some (.slice A 0 c) := rblk_cell P_r 1
  have c_r2 : W2.cell? ⟨w.heap.size, 2, none⟩ = some (.slice D k d) := rblk_cell P_r 2
  go_wp2
  go_ret
  exact ⟨rfl, kb⟩

set_option maxHeartbeats 1000000 in
theorem srs_neg (l m : List Int) (A D : Option Addr) (n k c d : Nat) (w : World) (hl : l.length = n) (hm : m.length = k) (hn : n ≤ 9223372036854775807) (hk : k ≤ 9223372036854775807) (hA : RdS w A (vi l)) (hD : RdS w D (vi m)) (h1 : okR true l m = true) (h0 : 0 < n) :
    Calls Tryz.prog 51 #[.agg #[.bool true, .slice A n c, .slice D k d]] w fun e w' => e = .returned (.int .i64 (-1)) ∧ Below w.heap.size w w' := by
  have H1 := Lib.hid (fun W h h' => spec_rok true l m A D n c k d W hl hm hn hk h h')
  rw [h1] at H1
  have hz : ¬ (n : Int) = 0 := by omega
  have hz' : ((n : Int) == 0) = false := by rw [beq_eq_false_iff_ne]; exact hz
  have RR : Hid (∀ W, Below w.heap.size w W → RdS W A (vi l) ∧ RdS W D (vi m)) := Lib.hid (fun W hb => ⟨hA.below hb, hD.below hb⟩)
  clear h1 hA hD hl hm hn hk
  go_enter Tryz.func51, Tryz.ntmps51
  go_wp2_with fail
  have kb := ba1 w (.cells #[.bool true, .slice A n c, .slice D k d] 30)
  have P_r := heap_alloc_new w (.cells #[.bool true, .slice A n c, .slice D k d] 30)
  generalize w.alloc (.cells #[.bool true, .slice A n c, .slice D k d] 30) = W1 at kb P_r ⊢
  refine (H1.out _ (RR.out _ kb).1 (RR.out _ kb).2).mono ?_
  rintro e W2 ⟨rfl, hb⟩
  replace P_r := rblk_below P_r hb
  replace kb := bt kb hb
  clear hb
  have c_r0 : W2.cell? ⟨w.heap.size, 0, none⟩ = some (.bool true) := rblk_cell P_r 0
  have c_r1 : W2.cell? ⟨w.heap.size, 1, none⟩ = some (.slice A n c) := rblk_cell P_r 1
  have c_r2 : W2.cell? ⟨w.heap.size, 2, none⟩ = some (.slice D k d) := rblk_cell P_r 2
  go_wp2
  go_ret
  exact ⟨rfl, kb⟩

set_option maxHeartbeats 1000000 in
theorem srs_pos (l m : List Int) (A D : Option Addr) (n k c d : Nat) (w : World) (hl : l.length = n) (hm : m.length = k) (hn : n ≤ 9223372036854775807) (hk : k ≤ 9223372036854775807) (hA : RdS w A (vi l)) (hD : RdS w D (vi m)) (h1 : okR false l m = true) (h0 : 0 < n) :
    Calls Tryz.prog 51 #[.agg #[.bool false, .slice A n c, .slice D k d]] w fun e w' => e = .returned (.int .i64 1) ∧ Below w.heap.size w w' := by
  have H1 := Lib.hid (fun W h h' => spec_rok false l m A D n c k d W hl hm hn hk h h')
  rw [h1] at H1
  have hz : ¬ (n : Int) = 0 := by omega
  have hz' : ((n : Int) == 0) = false := by rw [beq_eq_false_iff_ne]; exact hz
  have RR : Hid (∀ W, Below w.heap.size w W → RdS W A (vi l) ∧ RdS W D (vi m)) := Lib.hid (fun W hb => ⟨hA.below hb, hD.below hb⟩)
  clear h1 hA hD hl hm hn hk
  go_enter Tryz.func51, Tryz.ntmps51
  go_wp2_with fail
  have kb := ba1 w (.cells #[.bool false, .slice A n c, .slice D k d] 30)
  have P_r := heap_alloc_new w (.cells #[.bool false, .slice A n c, .slice D k d] 30)
  generalize w.alloc (.cells #[.bool false, .slice A n c, .slice D k d] 30) = W1 at kb P_r ⊢
  refine (H1.out _ (RR.out _ kb).1 (RR.out _ kb).2).mono ?_
  rintro e W2 ⟨rfl, hb⟩
  replace P_r := rblk_below P_r hb
  replace kb := bt kb hb
  clear hb
  have c_r0 : W2.cell? ⟨w.heap.size, 0, none⟩ = some (.bool false) := rblk_cell P_r 0
  have c_r1 : W2.cell? ⟨w.heap.size, 1, none⟩ = some (.slice A n c) := rblk_cell P_r 1
  have c_r2 : W2.cell? ⟨w.heap.size, 2, none⟩ = some (.slice D k d) := rblk_cell P_r 2
  go_wp2
  go_ret
  exact ⟨rfl, kb⟩

theorem spec_rsign (pr : Bool) (l m : List Int) (A D : Option Addr) (n k c d : Nat) (w : World) (hl : l.length = n) (hm : m.length = k) (hn : n ≤ 9223372036854775807) (hk : k ≤ 9223372036854775807) (hA : RdS w A (vi l)) (hD : RdS w D (vi m)) :
    Calls Tryz.prog 51 #[.agg #[.bool pr, .slice A n c, .slice D k d]] w fun e w' => e = .returned (.int .i64 (sgnO (valQ pr l m))) ∧ Below w.heap.size w w' := by
  by_cases h1 : okR pr l m = true
  · obtain ⟨r, e1, e2, e3, hr⟩ := okR_q h1
    have hv : sgnO (valQ pr l m) = cmpZ r.num 0 := by rw [e1, e2, e3, valQ_yes hr]; rfl
    rw [hv]
    have hln : ln r.num.natAbs = n := by rw [← zm_length, ← e2]; exact hl
    by_cases h0 : n = 0
    · have hz : r.num = 0 := by have := ln_eq_zero.1 (hln.trans h0); omega
      rw [hz]
      subst h0
      exact srs_zero pr l m A D k c d w hl hm hk hA hD h1
    · have hz : r.num ≠ 0 := by rintro e; rw [e] at hln; exact h0 (by rw [← hln]; exact ln_zero)
      by_cases hneg : r.num < 0
      · have ep : pr = true := by rw [e1]; exact decide_eq_true hneg
        subst ep
        rw [show cmpZ r.num 0 = -1 from if_pos hneg]
        exact srs_neg l m A D n k c d w hl hm hn hk hA hD h1 (by omega)
      · have ep : pr = false := by rw [e1]; exact decide_eq_false hneg
        subst ep
        rw [show cmpZ r.num 0 = 1 by unfold cmpZ; rw [if_neg hneg, if_pos (by omega)]]
        exact srs_pos l m A D n k c d w hl hm hn hk hA hD h1 (by omega)
  · have h1' : okR pr l m = false := by simpa using h1
    rw [valQ_no h1']
    exact srs_no pr l m A D n k c d w hl hm hn hk hA hD h1'
end Go.Proofs.YtennekieiioilaaGreat

