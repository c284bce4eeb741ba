/-
  Fractions of the model: 'l04Neg', 'l04Add', 'l04Mul', 'RatDiv', 'l04Copy' and what stands on them.
-/
import Derived.Test.YtdgfbnnohnaoaaaGreatDoorDkE
import Derived.Deep.DrawnRows
import Derived.Test.YtdgfbnnohnaoaaaGreatDoorDkF
namespace Go.Proofs.YtdgfbnnohnaoaaaGreatDoor
open Go.ChangeShapes Go.WideShapes Go.ChangeAt Go.RowKit
open Go.ChangeMaps (open_string shut_string)
set_option linter.unusedVariables false
set_option linter.unusedSimpArgs false
set_option maxRecDepth 4000

attribute [local go_sem ↓] Go.wp_at_zero Go.wp_at_succ
end Go.Proofs.YtdgfbnnohnaoaaaGreatDoor

namespace Go.Proofs.YtdgfbnnohnaoaaaGreatDoor
open Go.ChangeShapes Go.WideShapes Go.ChangeAt Go.RowKit
open Go.ChangeMaps (open_string shut_string)
set_option linter.unusedVariables false
set_option linter.unusedSimpArgs false
set_option maxRecDepth 4000

attribute [local go_sem ↓] Go.wp_at_zero Go.wp_at_succ

end Go.Proofs.YtdgfbnnohnaoaaaGreatDoor

namespace Go.Proofs.YtdgfbnnohnaoaaaGreatDoor
open Go.ChangeShapes Go.WideShapes Go.ChangeAt Go.RowKit
open Go.ChangeMaps (open_string shut_string)
set_option linter.unusedVariables false
set_option linter.unusedSimpArgs false
set_option maxRecDepth 4000

attribute [local go_sem ↓] Go.wp_at_zero Go.wp_at_succ

set_option maxHeartbeats 1000000 in
theorem impl_rneg_yes (pr : Bool) (l m : List Int) (A D : Option Addr) (n k c d : Nat) (w : World) (hl : l.length = n) (hm : m.length = k) (hn : n ≤ 9223372036854775807) (hk : k ≤ 9223372036854775807) (hA : RdS w A (vi l)) (hD : RdS w D (vi m)) (h1 : okR pr l m = true) :
    Calls Tryz.prog 11 #[.agg #[.bool pr, .slice A n c, .slice D k d]] w (MadeR w.heap.size (qn (unQ negQ (valQ pr l m))) (ql (unQ negQ (valQ pr l m))) (qd (unQ negQ (valQ pr l m))) w) := by
  have H1 := Lib.hid (fun W h h' => impl_rok pr l m A D n c k d W hl hm hn hk h h')
  obtain ⟨r, e1, e2, e3, hr⟩ := okR_q h1
  have hv : unQ negQ (valQ pr l m) = negQ r := by rw [e1, e2, e3, valQ_yes hr]; rfl
  have HC := Lib.hid (fun W (a : RdS W A (vi l)) (b : RdS W D (vi m)) => show Calls Tryz.prog 31 #[.agg #[.bool (zn r.num), .slice A n c, .slice D k d]] W (MadeR W.heap.size (qn (negQ r)) (ql (negQ r)) (qd (negQ r)) W) from negated_q r A D n k c d W hr (by rw [← zm_length, ← e2]; exact hl) (by rw [← nd_length, ← e3]; exact hm) (show RdS W A (vi (zm r.num)) by rw [← e2]; exact a) (by rw [← e3]; exact b))
  rw [← e1] at HC
  try simp only [show ∀ z : Int, nd z.natAbs = zm z from fun z => rfl] at HC
  rw [hv]
  rw [h1] at H1
  have RR : Hid (∀ W, Below w.heap.size w W → RdS W A (vi l) ∧ RdS W D (vi m)) := Lib.hid (fun W hb => ⟨hA.below hb, hD.below hb⟩)
  clear hv e1 e2 e3 h1 hr hA hD hl hm hn hk
  generalize qn (negQ r) = sg at HC ⊢
  generalize ql (negQ r) = L at HC ⊢
  generalize qd (negQ r) = M at HC ⊢
  go_enter Tryz.func11, Tryz.ntmps11
  go_wp2_with fail
  have kb := ba2 w (.cells #[.bool pr, .slice A n c, .slice D k d] 27) (.cells #[.bool false, .slice none 0 0, .slice none 0 0] 27)
  obtain ⟨P_r, P_o⟩ := blocks2 w (.cells #[.bool pr, .slice A n c, .slice D k d] 27) (.cells #[.bool false, .slice none 0 0, .slice none 0 0] 27)
  generalize (w.alloc (.cells #[.bool pr, .slice A n c, .slice D k d] 27)).alloc (.cells #[.bool false, .slice none 0 0, .slice none 0 0] 27) = W1 at kb P_r P_o ⊢
  obtain ⟨rr, hrr⟩ : ∃ r, r = w.heap.size + 1 := ⟨_, rfl⟩
  rw [← hrr] at P_o ⊢
  have hrr3 : w.heap.size ≤ rr := by omega
  have nr_r : rr ≠ w.heap.size := by omega
  clear hrr
  refine (H1.out _ (RR.out _ kb).1 (RR.out _ kb).2).mono ?_
  rintro e W2 ⟨rfl, hb⟩
  replace P_r := rblk_below P_r hb
  replace P_o := rblk_below P_o hb
  replace kb := bt kb hb
  clear hb
  have c_r0 : W2.cell? ⟨w.heap.size, 0, none⟩ = some (.bool pr) := rblk_cell P_r 0
  have c_r1 : W2.cell? ⟨w.heap.size, 1, none⟩ = some (.slice A n c) := rblk_cell P_r 1
  have c_r2 : W2.cell? ⟨w.heap.size, 2, none⟩ = some (.slice D k d) := rblk_cell P_r 2
  go_wp2_with fail
  clear c_r0 c_r1 c_r2
  have hltr := rblk_lt P_o
  refine (HC.out _ (RR.out _ kb).1 (RR.out _ kb).2).mono ?_
  rintro e W3 ⟨A3, c3, D3, d3, rfl, hc3, hd3, o3, o4, hap3, hb⟩
  replace P_r := rblk_below P_r hb
  replace P_o := rblk_below P_o hb
  replace kb := bt kb hb
  clear hb
  have c_o0 : W3.cell? ⟨rr, 0, none⟩ = some (.bool false) := rblk_cell P_o 0
  have c_o1 : W3.cell? ⟨rr, 1, none⟩ = some (.slice none 0 0) := rblk_cell P_o 1
  have c_o2 : W3.cell? ⟨rr, 2, none⟩ = some (.slice none 0 0) := rblk_cell P_o 2
  have f_o0 := rblk_free P_o 0
  have f_o1 := rblk_free P_o 1
  have f_o2 := rblk_free P_o 2
  go_wp2
  exact bodyPost_ret (v := .agg #[.bool sg, .slice A3 L.length c3, .slice D3 M.length d3]) (by simp [results, Tryz.results11, go_sem, c_o0, c_o1, c_o2]) rfl ⟨A3, c3, D3, d3, rfl, hc3, hd3, (own_put3 o3 hltr _ _ _).more (Nat.le_trans hrr3 (Nat.le_of_lt hltr)), (own_put3 o4 hltr _ _ _).more (Nat.le_trans hrr3 (Nat.le_of_lt hltr)), hap3, below_put3 kb hrr3 _ _ _⟩

end Go.Proofs.YtdgfbnnohnaoaaaGreatDoor

namespace Go.Proofs.YtdgfbnnohnaoaaaGreatDoor
open Go.ChangeShapes Go.WideShapes Go.ChangeAt Go.RowKit
open Go.ChangeMaps (open_string shut_string)
set_option linter.unusedVariables false
set_option linter.unusedSimpArgs false
set_option maxRecDepth 4000

attribute [local go_sem ↓] Go.wp_at_zero Go.wp_at_succ

/-- The sign of a fraction; 0 where it is none. -/
def sgnO (x : Option Rat) : Int := match x with
  | some r => cmpZ r.num 0
  | none => 0
set_option maxHeartbeats 1000000 in
theorem impl_rsign (pr : Bool) (l m : List Int) (A D : Option Addr) (n k c d : Nat) (w : World) (hl : l.length = n) (hm : m.length = k) (hn : n ≤ 9223372036854775807) (hk : k ≤ 9223372036854775807) (hA : RdS w A (vi l)) (hD : RdS w D (vi m)) :
    Calls Tryz.prog 14 #[.agg #[.bool pr, .slice A n c, .slice D k d]] w fun e w' => e = .returned (.int .i64 (sgnO (valQ pr l m))) ∧ Below w.heap.size w w' := by
  have H1 := Lib.hid (fun W h h' => impl_rok pr l m A D n c k d W hl hm hn hk h h')
  by_cases h1 : okR pr l m = true
  · rw [h1] at H1
    obtain ⟨r, e1, e2, e3, hr⟩ := okR_q h1
    have hv : sgnO (valQ pr l m) = cmpZ r.num 0 := by rw [e1, e2, e3, valQ_yes hr]; rfl
    rw [hv]
    clear hv h1 hn hk
    subst e1 e2 e3
    have hr1 := hr.1
    have HO := Lib.hid (fun W a => sign_any r.num A D n k c d W (by rw [← zm_length]; exact hl) (by rw [← hl, zm_length]; omega) a)
    rw [show nd r.num.natAbs = zm r.num from rfl] at HO
    have RR : Hid (∀ W, Below w.heap.size w W → RdS W A (vi (zm r.num)) ∧ RdS W D (vi (nd r.den))) := Lib.hid (fun W hb => ⟨hA.below hb, hD.below hb⟩)
    clear hr1 hl hm hr hA hD
    generalize cmpZ r.num 0 = v at HO ⊢
    generalize zm r.num = La at *
    generalize nd r.den = Da at *
    generalize zn r.num = pr at *
    go_enter Tryz.func14, Tryz.ntmps14
    go_wp2_with fail
    have kb := ba1 w (.cells #[.bool pr, .slice A n c, .slice D k d] 27)
    have P_r := heap_alloc_new w (.cells #[.bool pr, .slice A n c, .slice D k d] 27)
    generalize w.alloc (.cells #[.bool pr, .slice A n c, .slice D k d] 27) = W1 at kb P_r ⊢
    refine (H1.out _ (RR.out _ kb).1 (RR.out _ kb).2).mono ?_
    rintro e W2 ⟨rfl, hb⟩
    replace P_r := rblk_below P_r hb
    replace kb := bt kb hb
    clear hb
    have c_r0 : W2.cell? ⟨w.heap.size, 0, none⟩ = some (.bool pr) := rblk_cell P_r 0
    have c_r1 : W2.cell? ⟨w.heap.size, 1, none⟩ = some (.slice A n c) := rblk_cell P_r 1
    have c_r2 : W2.cell? ⟨w.heap.size, 2, none⟩ = some (.slice D k d) := rblk_cell P_r 2
    go_wp2_with fail
    clear c_r0 c_r1 c_r2
    refine (HO.out _ (RR.out _ kb).1).mono ?_
    rintro e W3 ⟨rfl, hb⟩
    replace P_r := rblk_below P_r hb
    replace kb := bt kb hb
    clear hb
    go_wp2
    go_ret
    exact ⟨rfl, kb⟩
  · have h1' : okR pr l m = false := by simpa using h1
    rw [h1'] at H1
    rw [valQ_no h1']
    show Calls _ _ _ _ fun e w' => e = .returned (.int .i64 0) ∧ Below w.heap.size w w'
    have RR : Hid (∀ W, Below w.heap.size w W → RdS W A (vi l) ∧ RdS W D (vi m)) := Lib.hid (fun W hb => ⟨hA.below hb, hD.below hb⟩)
    clear h1 h1' hA hD hl hm hn hk
    go_enter Tryz.func14, Tryz.ntmps14
    go_wp2_with fail
    have kb := ba1 w (.cells #[.bool pr, .slice A n c, .slice D k d] 27)
    have P_r := heap_alloc_new w (.cells #[.bool pr, .slice A n c, .slice D k d] 27)
    generalize w.alloc (.cells #[.bool pr, .slice A n c, .slice D k d] 27) = W1 at kb P_r ⊢
    refine (H1.out _ (RR.out _ kb).1 (RR.out _ kb).2).mono ?_
    rintro e W2 ⟨rfl, hb⟩
    replace P_r := rblk_below P_r hb
    replace kb := bt kb hb
    clear hb
    go_wp2
    go_ret
    exact ⟨rfl, kb⟩

end Go.Proofs.YtdgfbnnohnaoaaaGreatDoor


