/-
  Fractions of the model: 'l04Neg', 'l04Add', 'l04Mul', 'RatDiv', 'l04Copy' and what stands on them.
-/
import Derived.Test.YtkmfbanlkglkmabGreatDoorDkE
import Derived.Deep.DrawnRows
import Derived.Test.YtkmfbanlkglkmabGreatDoorDkF
namespace Go.Proofs.YtkmfbanlkglkmabGreatDoor
open Go.ChangeShapes Go.WideShapes Go.ChangeAt Go.RowKit
open Go.ChangeMaps (open_string shut_string)
set_option linter.unusedVariables false
set_option linter.unusedSimpArgs false
set_option maxRecDepth 4000

attribute [local go_sem ↓] Go.wp_at_zero Go.wp_at_succ
theorem zn_neg (z : Int) : ((!(zn z)) && decide (nd z.natAbs ≠ [])) = zn (-z) := by
  unfold zn
  by_cases h : z = 0
  · subst h; rw [show (0 : Int).natAbs = 0 from rfl, nd_zero]; rfl
  · rw [decide_eq_true (nd_pos (by omega)), Bool.and_true]
    by_cases h1 : z < 0
    · rw [decide_eq_true h1, decide_eq_false (by omega)]; rfl
    · rw [decide_eq_false h1, decide_eq_true (by omega)]; rfl

end Go.Proofs.YtkmfbanlkglkmabGreatDoor

namespace Go.Proofs.YtkmfbanlkglkmabGreatDoor
open Go.ChangeShapes Go.WideShapes Go.ChangeAt Go.RowKit
open Go.ChangeMaps (open_string shut_string)
set_option linter.unusedVariables false
set_option linter.unusedSimpArgs false
set_option maxRecDepth 4000

attribute [local go_sem ↓] Go.wp_at_zero Go.wp_at_succ

theorem low_div (r s : Rat) : lowQ (!(zn r.num == zn s.num)) (r.num.natAbs * s.den) (r.den * s.num.natAbs) = quoQ r s := by
  unfold lowQ quoQ
  by_cases h : s.num = 0
  · rw [if_pos h, h, show (0 : Int).natAbs = 0 from rfl, Nat.mul_zero, if_pos rfl]
  · rw [if_neg h, if_neg (Nat.mul_ne_zero r.den_nz (by omega)), div_q h]
    congr 2
    have h1 := sgn_mul r.num s.den
    cases hz : zn s.num with
    | false =>
      rw [if_neg (by decide), ← h1]
      cases zn r.num <;> rfl
    | true =>
      rw [if_pos rfl, ← h1]
      unfold sgn
      cases zn r.num <;> simp
end Go.Proofs.YtkmfbanlkglkmabGreatDoor

namespace Go.Proofs.YtkmfbanlkglkmabGreatDoor
open Go.ChangeShapes Go.WideShapes Go.ChangeAt Go.RowKit
open Go.ChangeMaps (open_string shut_string)
set_option linter.unusedVariables false
set_option linter.unusedSimpArgs false
set_option maxRecDepth 4000

attribute [local go_sem ↓] Go.wp_at_zero Go.wp_at_succ

set_option maxHeartbeats 1000000 in
theorem impl_rneg_yes (pr : Bool) (l m : List Int) (A D : Option Addr) (n k c d : Nat) (w : World) (hl : l.length = n) (hm : m.length = k) (hn : n ≤ 9223372036854775807) (hk : k ≤ 9223372036854775807) (hA : RdS w A (vi l)) (hD : RdS w D (vi m)) (h1 : okR pr l m = true) :
    Calls Tryz.prog 32 #[.agg #[.bool pr, .slice A n c, .slice D k d]] w (MadeR w.heap.size (qn (unQ negQ (valQ pr l m))) (ql (unQ negQ (valQ pr l m))) (qd (unQ negQ (valQ pr l m))) w) := by
  have H1 := Lib.hid (fun W h h' => impl_rok pr l m A D n c k d W hl hm hn hk h h')
  obtain ⟨r, e1, e2, e3, hr⟩ := okR_q h1
  have hv : unQ negQ (valQ pr l m) = negQ r := by rw [e1, e2, e3, valQ_yes hr]; rfl
  have HC := Lib.hid (fun W (a : RdS W A (vi l)) (b : RdS W D (vi m)) => show Calls Tryz.prog 72 #[.agg #[.bool (zn r.num), .slice A n c, .slice D k d]] W (MadeR W.heap.size (qn (negQ r)) (ql (negQ r)) (qd (negQ r)) W) from negated_q r A D n k c d W hr (by rw [← zm_length, ← e2]; exact hl) (by rw [← nd_length, ← e3]; exact hm) (show RdS W A (vi (zm r.num)) by rw [← e2]; exact a) (by rw [← e3]; exact b))
  rw [← e1] at HC
  try simp only [show ∀ z : Int, nd z.natAbs = zm z from fun z => rfl] at HC
  rw [hv]
  rw [h1] at H1
  have RR : Hid (∀ W, Below w.heap.size w W → RdS W A (vi l) ∧ RdS W D (vi m)) := Lib.hid (fun W hb => ⟨hA.below hb, hD.below hb⟩)
  clear hv e1 e2 e3 h1 hr hA hD hl hm hn hk
  generalize qn (negQ r) = sg at HC ⊢
  generalize ql (negQ r) = L at HC ⊢
  generalize qd (negQ r) = M at HC ⊢
  go_enter Tryz.func32, Tryz.ntmps32
  go_wp2_with fail
  have kb := ba2 w (.cells #[.bool pr, .slice A n c, .slice D k d] 33) (.cells #[.bool false, .slice none 0 0, .slice none 0 0] 33)
  obtain ⟨P_r, P_o⟩ := blocks2 w (.cells #[.bool pr, .slice A n c, .slice D k d] 33) (.cells #[.bool false, .slice none 0 0, .slice none 0 0] 33)
  generalize (w.alloc (.cells #[.bool pr, .slice A n c, .slice D k d] 33)).alloc (.cells #[.bool false, .slice none 0 0, .slice none 0 0] 33) = W1 at kb P_r P_o ⊢
  obtain ⟨rr, hrr⟩ : ∃ r, r = w.heap.size + 1 := ⟨_, rfl⟩
  rw [← hrr] at P_o ⊢
  have hrr3 : w.heap.size ≤ rr := by omega
  have nr_r : rr ≠ w.heap.size := by omega
  clear hrr
  refine (H1.out _ (RR.out _ kb).1 (RR.out _ kb).2).mono ?_
  rintro e W2 ⟨rfl, hb⟩
  replace P_r := rblk_below P_r hb
  replace P_o := rblk_below P_o hb
  replace kb := bt kb hb
  clear hb
  have c_r0 : W2.cell? ⟨w.heap.size, 0, none⟩ = some (.bool pr) := rblk_cell P_r 0
  have c_r1 : W2.cell? ⟨w.heap.size, 1, none⟩ = some (.slice A n c) := rblk_cell P_r 1
  have c_r2 : W2.cell? ⟨w.heap.size, 2, none⟩ = some (.slice D k d) := rblk_cell P_r 2
  go_wp2_with fail
  clear c_r0 c_r1 c_r2
  have hltr := rblk_lt P_o
  refine (HC.out _ (RR.out _ kb).1 (RR.out _ kb).2).mono ?_
  rintro e W3 ⟨A3, c3, D3, d3, rfl, hc3, hd3, o3, o4, hap3, hb⟩
  replace P_r := rblk_below P_r hb
  replace P_o := rblk_below P_o hb
  replace kb := bt kb hb
  clear hb
  have c_o0 : W3.cell? ⟨rr, 0, none⟩ = some (.bool false) := rblk_cell P_o 0
  have c_o1 : W3.cell? ⟨rr, 1, none⟩ = some (.slice none 0 0) := rblk_cell P_o 1
  have c_o2 : W3.cell? ⟨rr, 2, none⟩ = some (.slice none 0 0) := rblk_cell P_o 2
  have f_o0 := rblk_free P_o 0
  have f_o1 := rblk_free P_o 1
  have f_o2 := rblk_free P_o 2
  go_wp2
  exact bodyPost_ret (v := .agg #[.bool sg, .slice A3 L.length c3, .slice D3 M.length d3]) (by simp [results, Tryz.results32, go_sem, c_o0, c_o1, c_o2]) rfl ⟨A3, c3, D3, d3, rfl, hc3, hd3, (own_put3 o3 hltr _ _ _).more (Nat.le_trans hrr3 (Nat.le_of_lt hltr)), (own_put3 o4 hltr _ _ _).more (Nat.le_trans hrr3 (Nat.le_of_lt hltr)), hap3, below_put3 kb hrr3 _ _ _⟩

set_option maxHeartbeats 1000000 in
theorem impl_rneg_no (pr : Bool) (l m : List Int) (A D : Option Addr) (n k c d : Nat) (w : World) (hl : l.length = n) (hm : m.length = k) (hn : n ≤ 9223372036854775807) (hk : k ≤ 9223372036854775807) (hA : RdS w A (vi l)) (hD : RdS w D (vi m)) (h1 : okR pr l m = false) :
    Calls Tryz.prog 32 #[.agg #[.bool pr, .slice A n c, .slice D k d]] w (MadeR w.heap.size false [] [] w) := by
  have H1 := Lib.hid (fun W h h' => impl_rok pr l m A D n c k d W hl hm hn hk h h')
  rw [h1] at H1
  have RR : Hid (∀ W, Below w.heap.size w W → RdS W A (vi l) ∧ RdS W D (vi m)) := Lib.hid (fun W hb => ⟨hA.below hb, hD.below hb⟩)
  clear h1 hA hD hl hm hn hk
  go_enter Tryz.func32, Tryz.ntmps32
  go_wp2_with fail
  have kb := ba2 w (.cells #[.bool pr, .slice A n c, .slice D k d] 33) (.cells #[.bool false, .slice none 0 0, .slice none 0 0] 33)
  obtain ⟨P_r, P_o⟩ := blocks2 w (.cells #[.bool pr, .slice A n c, .slice D k d] 33) (.cells #[.bool false, .slice none 0 0, .slice none 0 0] 33)
  generalize (w.alloc (.cells #[.bool pr, .slice A n c, .slice D k d] 33)).alloc (.cells #[.bool false, .slice none 0 0, .slice none 0 0] 33) = W1 at kb P_r P_o ⊢
  obtain ⟨rr, hrr⟩ : ∃ r, r = w.heap.size + 1 := ⟨_, rfl⟩
  rw [← hrr] at P_o ⊢
  have hrr3 : w.heap.size ≤ rr := by omega
  have nr_r : rr ≠ w.heap.size := by omega
  clear hrr
  refine (H1.out _ (RR.out _ kb).1 (RR.out _ kb).2).mono ?_
  rintro e W2 ⟨rfl, hb⟩
  replace P_r := rblk_below P_r hb
  replace P_o := rblk_below P_o hb
  replace kb := bt kb hb
  clear hb
  have c_r0 : W2.cell? ⟨w.heap.size, 0, none⟩ = some (.bool pr) := rblk_cell P_r 0
  have c_r1 : W2.cell? ⟨w.heap.size, 1, none⟩ = some (.slice A n c) := rblk_cell P_r 1
  have c_r2 : W2.cell? ⟨w.heap.size, 2, none⟩ = some (.slice D k d) := rblk_cell P_r 2
  have c_o0 : W2.cell? ⟨rr, 0, none⟩ = some (.bool false) := rblk_cell P_o 0
  have c_o1 : W2.cell? ⟨rr, 1, none⟩ = some (.slice none 0 0) := rblk_cell P_o 1
  have c_o2 : W2.cell? ⟨rr, 2, none⟩ = some (.slice none 0 0) := rblk_cell P_o 2
  have f_o0 := rblk_free P_o 0
  have f_o1 := rblk_free P_o 1
  have f_o2 := rblk_free P_o 2
  go_wp2
  exact bodyPost_ret (v := .agg #[.bool false, .slice none 0 0, .slice none 0 0]) (by simp [results, Tryz.results32, go_sem, c_o0, c_o1, c_o2]) rfl ⟨none, 0, none, 0, rfl, Nat.le_refl _, Nat.le_refl _, .inl rfl, .inl rfl, (fun a h => by simp [rowOf] at h), below_put3 kb hrr3 _ _ _⟩

theorem impl_rneg (pr : Bool) (l m : List Int) (A D : Option Addr) (n k c d : Nat) (w : World) (hl : l.length = n) (hm : m.length = k) (hn : n ≤ 9223372036854775807) (hk : k ≤ 9223372036854775807) (hA : RdS w A (vi l)) (hD : RdS w D (vi m)) :
    Calls Tryz.prog 32 #[.agg #[.bool pr, .slice A n c, .slice D k d]] w (MadeR w.heap.size (qn (unQ negQ (valQ pr l m))) (ql (unQ negQ (valQ pr l m))) (qd (unQ negQ (valQ pr l m))) w) := by
  by_cases h1 : okR pr l m = true
  · exact impl_rneg_yes pr l m A D n k c d w hl hm hn hk hA hD h1
  · have h1' : okR pr l m = false := by simpa using h1
    rw [valQ_no h1']
    exact impl_rneg_no pr l m A D n k c d w hl hm hn hk hA hD h1'

set_option maxHeartbeats 1000000 in
theorem impl_rmin_yes (pr ps : Bool) (l m l' m' : List Int) (A D A' D' : Option Addr) (n k n' k' c d c' d' : Nat) (w : World) (hl : l.length = n) (hm : m.length = k) (hl' : l'.length = n') (hm' : m'.length = k')
    (hn : n ≤ 9223372036854775807) (hk : k ≤ 9223372036854775807) (hn' : n' ≤ 9223372036854775807) (hk' : k' ≤ 9223372036854775807)
    (hA : RdS w A (vi l)) (hD : RdS w D (vi m)) (hA' : RdS w A' (vi l')) (hD' : RdS w D' (vi m')) (h1 : okR pr l m = true) (h2 : okR ps l' m' = true) :
    Calls Tryz.prog 24 #[.agg #[.bool pr, .slice A n c, .slice D k d], .agg #[.bool ps, .slice A' n' c', .slice D' k' d']] w (MadeR w.heap.size (qn (binQ minQ (valQ pr l m) (valQ ps l' m'))) (ql (binQ minQ (valQ pr l m) (valQ ps l' m'))) (qd (binQ minQ (valQ pr l m) (valQ ps l' m'))) w) := by
  have H0 := Lib.hid (fun W a b a' b' => are_rats pr ps l m l' m' A D A' D' n k n' k' c d c' d' W hl hm hl' hm' hn hk hn' hk' a b a' b')
  obtain ⟨r, e1, e2, e3, hr⟩ := okR_q h1
  obtain ⟨s, e4, e5, e6, hs⟩ := okR_q h2
  have hv : binQ minQ (valQ pr l m) (valQ ps l' m') = minQ r s := by rw [e1, e2, e3, e4, e5, e6, valQ_yes hr, valQ_yes hs]; rfl
  rw [hv]
  rw [h1, h2] at H0
  clear hv h1 h2 hn hk hn' hk'
  subst e1 e2 e3 e4 e5 e6
  have hr1 := hr.1; have hr2 := hr.2; have hs1 := hs.1; have hs2 := hs.2
  have HO := Lib.hid (fun W a b a' b' => order_q r s A D A' D' n k n' k' c d c' d' W hr hs hl hm hl' hm' a b a' b')
  rw [zm_length] at hl hl'
  rw [nd_length] at hm hm'
  have C1 := Lib.hid (fun W a b => copied_any (zn r.num) r.num.natAbs r.den A D n k c d W hl hm (by omega) (by omega) a b)
  have C2 := Lib.hid (fun W a b => copied_any (zn s.num) s.num.natAbs s.den A' D' n' k' c' d' W hl' hm' (by omega) (by omega) a b)
  have RR : Hid (∀ W, Below w.heap.size w W → RdS W A (vi (zm r.num)) ∧ RdS W D (vi (nd r.den)) ∧ RdS W A' (vi (zm s.num)) ∧ RdS W D' (vi (nd s.den))) := Lib.hid (fun W hb => ⟨hA.below hb, hD.below hb, hA'.below hb, hD'.below hb⟩)
  clear hl hm hl' hm' hr hs hA hD hA' hD' hr1 hr2 hs1 hs2
  by_cases hc : cmpQ r s < 0
  · rw [show minQ r s = some r from if_pos hc]
    show Calls _ _ _ _ (MadeR w.heap.size (zn r.num) (zm r.num) (nd r.den) w)
    unfold zm at H0 HO RR ⊢
    generalize cmpQ r s = v at HO hc
    generalize nd r.num.natAbs = La at *
    generalize nd s.num.natAbs = Lb at *
    generalize nd r.den = Da at *
    generalize nd s.den = Db at *
    generalize zn r.num = pr at *
    generalize zn s.num = ps at *
    go_enter Tryz.func24, Tryz.ntmps24
    go_wp2_with fail
    have kb := ba3 w (.cells #[.bool pr, .slice A n c, .slice D k d] 33) (.cells #[.bool ps, .slice A' n' c', .slice D' k' d'] 33) (.cells #[.bool false, .slice none 0 0, .slice none 0 0] 33)
    obtain ⟨P_r, P_s, P_o⟩ := blocks3 w (.cells #[.bool pr, .slice A n c, .slice D k d] 33) (.cells #[.bool ps, .slice A' n' c', .slice D' k' d'] 33) (.cells #[.bool false, .slice none 0 0, .slice none 0 0] 33)
    generalize ((w.alloc (.cells #[.bool pr, .slice A n c, .slice D k d] 33)).alloc (.cells #[.bool ps, .slice A' n' c', .slice D' k' d'] 33)).alloc (.cells #[.bool false, .slice none 0 0, .slice none 0 0] 33) = W1 at kb P_r P_s P_o ⊢
    obtain ⟨rr, hrr⟩ : ∃ r, r = w.heap.size + 1 + 1 := ⟨_, rfl⟩
    rw [← hrr] at P_o ⊢
    have hrr3 : w.heap.size ≤ rr := by omega
    have nr_r : rr ≠ w.heap.size := by omega
    have nr_s : rr ≠ w.heap.size + 1 := by omega
    clear hrr
    refine (H0.out _ (RR.out _ kb).1 (RR.out _ kb).2.1 (RR.out _ kb).2.2.1 (RR.out _ kb).2.2.2).mono ?_
    rintro e W2 ⟨rfl, hb⟩
    replace P_r := rblk_below P_r hb
    replace P_s := rblk_below P_s hb
    replace P_o := rblk_below P_o hb
    replace kb := bt kb hb
    clear hb
    have c_r0 : W2.cell? ⟨w.heap.size, 0, none⟩ = some (.bool pr) := rblk_cell P_r 0
    have c_r1 : W2.cell? ⟨w.heap.size, 1, none⟩ = some (.slice A n c) := rblk_cell P_r 1
    have c_r2 : W2.cell? ⟨w.heap.size, 2, none⟩ = some (.slice D k d) := rblk_cell P_r 2
    have c_s0 : W2.cell? ⟨w.heap.size + 1, 0, none⟩ = some (.bool ps) := rblk_cell P_s 0
    have c_s1 : W2.cell? ⟨w.heap.size + 1, 1, none⟩ = some (.slice A' n' c') := rblk_cell P_s 1
    have c_s2 : W2.cell? ⟨w.heap.size + 1, 2, none⟩ = some (.slice D' k' d') := rblk_cell P_s 2
    go_wp2_with fail
    clear c_r0 c_r1 c_r2 c_s0 c_s1 c_s2
    refine (HO.out _ (RR.out _ kb).1 (RR.out _ kb).2.1 (RR.out _ kb).2.2.1 (RR.out _ kb).2.2.2).mono ?_
    rintro e W3 ⟨rfl, hb⟩
    replace P_r := rblk_below P_r hb
    replace P_s := rblk_below P_s hb
    replace P_o := rblk_below P_o hb
    replace kb := bt kb hb
    clear hb
    have c_r0 : W3.cell? ⟨w.heap.size, 0, none⟩ = some (.bool pr) := rblk_cell P_r 0
    have c_r1 : W3.cell? ⟨w.heap.size, 1, none⟩ = some (.slice A n c) := rblk_cell P_r 1
    have c_r2 : W3.cell? ⟨w.heap.size, 2, none⟩ = some (.slice D k d) := rblk_cell P_r 2
    have c_s0 : W3.cell? ⟨w.heap.size + 1, 0, none⟩ = some (.bool ps) := rblk_cell P_s 0
    have c_s1 : W3.cell? ⟨w.heap.size + 1, 1, none⟩ = some (.slice A' n' c') := rblk_cell P_s 1
    have c_s2 : W3.cell? ⟨w.heap.size + 1, 2, none⟩ = some (.slice D' k' d') := rblk_cell P_s 2
    go_wp2_with fail
    clear c_r0 c_r1 c_r2 c_s0 c_s1 c_s2
    have hltr := rblk_lt P_o
    refine (C1.out _ (RR.out _ kb).1 (RR.out _ kb).2.1).mono ?_
    rintro e W4 ⟨A3, c3, D3, d3, rfl, hc3, hd3, o3, o4, hap3, hb⟩
    replace P_r := rblk_below P_r hb
    replace P_s := rblk_below P_s hb
    replace P_o := rblk_below P_o hb
    replace kb := bt kb hb
    clear hb
    have c_o0 : W4.cell? ⟨rr, 0, none⟩ = some (.bool false) := rblk_cell P_o 0
    have c_o1 : W4.cell? ⟨rr, 1, none⟩ = some (.slice none 0 0) := rblk_cell P_o 1
    have c_o2 : W4.cell? ⟨rr, 2, none⟩ = some (.slice none 0 0) := rblk_cell P_o 2
    have f_o0 := rblk_free P_o 0
    have f_o1 := rblk_free P_o 1
    have f_o2 := rblk_free P_o 2
    go_wp2
    exact bodyPost_ret (v := .agg #[.bool pr, .slice A3 La.length c3, .slice D3 Da.length d3]) (by simp [results, Tryz.results24, go_sem, c_o0, c_o1, c_o2]) rfl ⟨A3, c3, D3, d3, rfl, hc3, hd3, (own_put3 o3 hltr _ _ _).more (Nat.le_trans hrr3 (Nat.le_of_lt hltr)), (own_put3 o4 hltr _ _ _).more (Nat.le_trans hrr3 (Nat.le_of_lt hltr)), hap3, below_put3 kb hrr3 _ _ _⟩
  · rw [show minQ r s = some s from if_neg hc]
    show Calls _ _ _ _ (MadeR w.heap.size (zn s.num) (zm s.num) (nd s.den) w)
    unfold zm at H0 HO RR ⊢
    generalize cmpQ r s = v at HO hc
    generalize nd r.num.natAbs = La at *
    generalize nd s.num.natAbs = Lb at *
    generalize nd r.den = Da at *
    generalize nd s.den = Db at *
    generalize zn r.num = pr at *
    generalize zn s.num = ps at *
    go_enter Tryz.func24, Tryz.ntmps24
    go_wp2_with fail
    have kb := ba3 w (.cells #[.bool pr, .slice A n c, .slice D k d] 33) (.cells #[.bool ps, .slice A' n' c', .slice D' k' d'] 33) (.cells #[.bool false, .slice none 0 0, .slice none 0 0] 33)
    obtain ⟨P_r, P_s, P_o⟩ := blocks3 w (.cells #[.bool pr, .slice A n c, .slice D k d] 33) (.cells #[.bool ps, .slice A' n' c', .slice D' k' d'] 33) (.cells #[.bool false, .slice none 0 0, .slice none 0 0] 33)
    generalize ((w.alloc (.cells #[.bool pr, .slice A n c, .slice D k d] 33)).alloc (.cells #[.bool ps, .slice A' n' c', .slice D' k' d'] 33)).alloc (.cells #[.bool false, .slice none 0 0, .slice none 0 0] 33) = W1 at kb P_r P_s P_o ⊢
    obtain ⟨rr, hrr⟩ : ∃ r, r = w.heap.size + 1 + 1 := ⟨_, rfl⟩
    rw [← hrr] at P_o ⊢
    have hrr3 : w.heap.size ≤ rr := by omega
    have nr_r : rr ≠ w.heap.size := by omega
    have nr_s : rr ≠ w.heap.size + 1 := by omega
    clear hrr
    refine (H0.out _ (RR.out _ kb).1 (RR.out _ kb).2.1 (RR.out _ kb).2.2.1 (RR.out _ kb).2.2.2).mono ?_
    rintro e W2 ⟨rfl, hb⟩
    replace P_r := rblk_below P_r hb
    replace P_s := rblk_below P_s hb
    replace P_o := rblk_below P_o hb
    replace kb := bt kb hb
    clear hb
    have c_r0 : W2.cell? ⟨w.heap.size, 0, none⟩ = some (.bool pr) := rblk_cell P_r 0
    have c_r1 : W2.cell? ⟨w.heap.size, 1, none⟩ = some (.slice A n c) := rblk_cell P_r 1
    have c_r2 : W2.cell? ⟨w.heap.size, 2, none⟩ = some (.slice D k d) := rblk_cell P_r 2
    have c_s0 : W2.cell? ⟨w.heap.size + 1, 0, none⟩ = some (.bool ps) := rblk_cell P_s 0
    have c_s1 : W2.cell? ⟨w.heap.size + 1, 1, none⟩ = some (.slice A' n' c') := rblk_cell P_s 1
    have c_s2 : W2.cell? ⟨w.heap.size + 1, 2, none⟩ = some (.slice D' k' d') := rblk_cell P_s 2
    go_wp2_with fail
    clear c_r0 c_r1 c_r2 c_s0 c_s1 c_s2
    refine (HO.out _ (RR.out _ kb).1 (RR.out _ kb).2.1 (RR.out _ kb).2.2.1 (RR.out _ kb).2.2.2).mono ?_
    rintro e W3 ⟨rfl, hb⟩
    replace P_r := rblk_below P_r hb
    replace P_s := rblk_below P_s hb
    replace P_o := rblk_below P_o hb
    replace kb := bt kb hb
    clear hb
    have c_r0 : W3.cell? ⟨w.heap.size, 0, none⟩ = some (.bool pr) := rblk_cell P_r 0
    have c_r1 : W3.cell? ⟨w.heap.size, 1, none⟩ = some (.slice A n c) := rblk_cell P_r 1
    have c_r2 : W3.cell? ⟨w.heap.size, 2, none⟩ = some (.slice D k d) := rblk_cell P_r 2
    have c_s0 : W3.cell? ⟨w.heap.size + 1, 0, none⟩ = some (.bool ps) := rblk_cell P_s 0
    have c_s1 : W3.cell? ⟨w.heap.size + 1, 1, none⟩ = some (.slice A' n' c') := rblk_cell P_s 1
    have c_s2 : W3.cell? ⟨w.heap.size + 1, 2, none⟩ = some (.slice D' k' d') := rblk_cell P_s 2
    go_wp2_with fail
    clear c_r0 c_r1 c_r2 c_s0 c_s1 c_s2
    have hltr := rblk_lt P_o
    refine (C2.out _ (RR.out _ kb).2.2.1 (RR.out _ kb).2.2.2).mono ?_
    rintro e W4 ⟨A3, c3, D3, d3, rfl, hc3, hd3, o3, o4, hap3, hb⟩
    replace P_r := rblk_below P_r hb
    replace P_s := rblk_below P_s hb
    replace P_o := rblk_below P_o hb
    replace kb := bt kb hb
    clear hb
    have c_o0 : W4.cell? ⟨rr, 0, none⟩ = some (.bool false) := rblk_cell P_o 0
    have c_o1 : W4.cell? ⟨rr, 1, none⟩ = some (.slice none 0 0) := rblk_cell P_o 1
    have c_o2 : W4.cell? ⟨rr, 2, none⟩ = some (.slice none 0 0) := rblk_cell P_o 2
    have f_o0 := rblk_free P_o 0
    have f_o1 := rblk_free P_o 1
    have f_o2 := rblk_free P_o 2
    go_wp2
    exact bodyPost_ret (v := .agg #[.bool ps, .slice A3 Lb.length c3, .slice D3 Db.length d3]) (by simp [results, Tryz.results24, go_sem, c_o0, c_o1, c_o2]) rfl ⟨A3, c3, D3, d3, rfl, hc3, hd3, (own_put3 o3 hltr _ _ _).more (Nat.le_trans hrr3 (Nat.le_of_lt hltr)), (own_put3 o4 hltr _ _ _).more (Nat.le_trans hrr3 (Nat.le_of_lt hltr)), hap3, below_put3 kb hrr3 _ _ _⟩

set_option maxHeartbeats 1000000 in
theorem impl_rmin_no (pr ps : Bool) (l m l' m' : List Int) (A D A' D' : Option Addr) (n k n' k' c d c' d' : Nat) (w : World) (hl : l.length = n) (hm : m.length = k) (hl' : l'.length = n') (hm' : m'.length = k')
    (hn : n ≤ 9223372036854775807) (hk : k ≤ 9223372036854775807) (hn' : n' ≤ 9223372036854775807) (hk' : k' ≤ 9223372036854775807)
    (hA : RdS w A (vi l)) (hD : RdS w D (vi m)) (hA' : RdS w A' (vi l')) (hD' : RdS w D' (vi m')) (h0 : (okR pr l m && okR ps l' m') = false) :
    Calls Tryz.prog 24 #[.agg #[.bool pr, .slice A n c, .slice D k d], .agg #[.bool ps, .slice A' n' c', .slice D' k' d']] w (MadeR w.heap.size false [] [] w) := by
  have H0 := Lib.hid (fun W a b a' b' => are_rats pr ps l m l' m' A D A' D' n k n' k' c d c' d' W hl hm hl' hm' hn hk hn' hk' a b a' b')
  rw [h0] at H0
  have RR : Hid (∀ W, Below w.heap.size w W → RdS W A (vi l) ∧ RdS W D (vi m) ∧ RdS W A' (vi l') ∧ RdS W D' (vi m')) := Lib.hid (fun W hb => ⟨hA.below hb, hD.below hb, hA'.below hb, hD'.below hb⟩)
  clear h0 hA hD hA' hD' hl hm hl' hm' hn hk hn' hk'
  go_enter Tryz.func24, Tryz.ntmps24
  go_wp2_with fail
  have kb := ba3 w (.cells #[.bool pr, .slice A n c, .slice D k d] 33) (.cells #[.bool ps, .slice A' n' c', .slice D' k' d'] 33) (.cells #[.bool false, .slice none 0 0, .slice none 0 0] 33)
  obtain ⟨P_r, P_s, P_o⟩ := blocks3 w (.cells #[.bool pr, .slice A n c, .slice D k d] 33) (.cells #[.bool ps, .slice A' n' c', .slice D' k' d'] 33) (.cells #[.bool false, .slice none 0 0, .slice none 0 0] 33)
  generalize ((w.alloc (.cells #[.bool pr, .slice A n c, .slice D k d] 33)).alloc (.cells #[.bool ps, .slice A' n' c', .slice D' k' d'] 33)).alloc (.cells #[.bool false, .slice none 0 0, .slice none 0 0] 33) = W1 at kb P_r P_s P_o ⊢
  obtain ⟨rr, hrr⟩ : ∃ r, r = w.heap.size + 1 + 1 := ⟨_, rfl⟩
  rw [← hrr] at P_o ⊢
  have hrr3 : w.heap.size ≤ rr := by omega
  have nr_r : rr ≠ w.heap.size := by omega
  have nr_s : rr ≠ w.heap.size + 1 := by omega
  clear hrr
  refine (H0.out _ (RR.out _ kb).1 (RR.out _ kb).2.1 (RR.out _ kb).2.2.1 (RR.out _ kb).2.2.2).mono ?_
  rintro e W2 ⟨rfl, hb⟩
  replace P_r := rblk_below P_r hb
  replace P_s := rblk_below P_s hb
  replace P_o := rblk_below P_o hb
  replace kb := bt kb hb
  clear hb
  have c_r0 : W2.cell? ⟨w.heap.size, 0, none⟩ = some (.bool pr) := rblk_cell P_r 0
  have c_r1 : W2.cell? ⟨w.heap.size, 1, none⟩ = some (.slice A n c) := rblk_cell P_r 1
  have c_r2 : W2.cell? ⟨w.heap.size, 2, none⟩ = some (.slice D k d) := rblk_cell P_r 2
  have c_s0 : W2.cell? ⟨w.heap.size + 1, 0, none⟩ = some (.bool ps) := rblk_cell P_s 0
  have c_s1 : W2.cell? ⟨w.heap.size + 1, 1, none⟩ = some (.slice A' n' c') := rblk_cell P_s 1
  have c_s2 : W2.cell? ⟨w.heap.size + 1, 2, none⟩ = some (.slice D' k' d') := rblk_cell P_s 2
  have c_o0 : W2.cell? ⟨rr, 0, none⟩ = some (.bool false) := rblk_cell P_o 0
  have c_o1 : W2.cell? ⟨rr, 1, none⟩ = some (.slice none 0 0) := rblk_cell P_o 1
  have c_o2 : W2.cell? ⟨rr, 2, none⟩ = some (.slice none 0 0) := rblk_cell P_o 2
  have f_o0 := rblk_free P_o 0
  have f_o1 := rblk_free P_o 1
  have f_o2 := rblk_free P_o 2
  go_wp2
  exact bodyPost_ret (v := .agg #[.bool false, .slice none 0 0, .slice none 0 0]) (by simp [results, Tryz.results24, go_sem, c_o0, c_o1, c_o2]) rfl ⟨none, 0, none, 0, rfl, Nat.le_refl _, Nat.le_refl _, .inl rfl, .inl rfl, (fun a h => by simp [rowOf] at h), below_put3 kb hrr3 _ _ _⟩

theorem impl_rmin (pr ps : Bool) (l m l' m' : List Int) (A D A' D' : Option Addr) (n k n' k' c d c' d' : Nat) (w : World) (hl : l.length = n) (hm : m.length = k) (hl' : l'.length = n') (hm' : m'.length = k')
    (hn : n ≤ 9223372036854775807) (hk : k ≤ 9223372036854775807) (hn' : n' ≤ 9223372036854775807) (hk' : k' ≤ 9223372036854775807)
    (hA : RdS w A (vi l)) (hD : RdS w D (vi m)) (hA' : RdS w A' (vi l')) (hD' : RdS w D' (vi m')) :
    Calls Tryz.prog 24 #[.agg #[.bool pr, .slice A n c, .slice D k d], .agg #[.bool ps, .slice A' n' c', .slice D' k' d']] w (MadeR w.heap.size (qn (binQ minQ (valQ pr l m) (valQ ps l' m'))) (ql (binQ minQ (valQ pr l m) (valQ ps l' m'))) (qd (binQ minQ (valQ pr l m) (valQ ps l' m'))) w) := by
  by_cases h0 : (okR pr l m && okR ps l' m') = true
  · rw [Bool.and_eq_true] at h0
    exact impl_rmin_yes pr ps l m l' m' A D A' D' n k n' k' c d c' d' w hl hm hl' hm' hn hk hn' hk' hA hD hA' hD' h0.1 h0.2
  · have h0' : (okR pr l m && okR ps l' m') = false := by simpa using h0
    rw [binQ_no h0']
    exact impl_rmin_no pr ps l m l' m' A D A' D' n k n' k' c d c' d' w hl hm hl' hm' hn hk hn' hk' hA hD hA' hD' h0'

set_option maxHeartbeats 1000000 in
theorem impl_rmax_yes (pr ps : Bool) (l m l' m' : List Int) (A D A' D' : Option Addr) (n k n' k' c d c' d' : Nat) (w : World) (hl : l.length = n) (hm : m.length = k) (hl' : l'.length = n') (hm' : m'.length = k')
    (hn : n ≤ 9223372036854775807) (hk : k ≤ 9223372036854775807) (hn' : n' ≤ 9223372036854775807) (hk' : k' ≤ 9223372036854775807)
    (hA : RdS w A (vi l)) (hD : RdS w D (vi m)) (hA' : RdS w A' (vi l')) (hD' : RdS w D' (vi m')) (h1 : okR pr l m = true) (h2 : okR ps l' m' = true) :
    Calls Tryz.prog 25 #[.agg #[.bool pr, .slice A n c, .slice D k d], .agg #[.bool ps, .slice A' n' c', .slice D' k' d']] w (MadeR w.heap.size (qn (binQ maxQ (valQ pr l m) (valQ ps l' m'))) (ql (binQ maxQ (valQ pr l m) (valQ ps l' m'))) (qd (binQ maxQ (valQ pr l m) (valQ ps l' m'))) w) := by
  have H0 := Lib.hid (fun W a b a' b' => are_rats pr ps l m l' m' A D A' D' n k n' k' c d c' d' W hl hm hl' hm' hn hk hn' hk' a b a' b')
  obtain ⟨r, e1, e2, e3, hr⟩ := okR_q h1
  obtain ⟨s, e4, e5, e6, hs⟩ := okR_q h2
  have hv : binQ maxQ (valQ pr l m) (valQ ps l' m') = maxQ r s := by rw [e1, e2, e3, e4, e5, e6, valQ_yes hr, valQ_yes hs]; rfl
  rw [hv]
  rw [h1, h2] at H0
  clear hv h1 h2 hn hk hn' hk'
  subst e1 e2 e3 e4 e5 e6
  have hr1 := hr.1; have hr2 := hr.2; have hs1 := hs.1; have hs2 := hs.2
  have HO := Lib.hid (fun W a b a' b' => order_q r s A D A' D' n k n' k' c d c' d' W hr hs hl hm hl' hm' a b a' b')
  rw [zm_length] at hl hl'
  rw [nd_length] at hm hm'
  have C1 := Lib.hid (fun W a b => copied_any (zn r.num) r.num.natAbs r.den A D n k c d W hl hm (by omega) (by omega) a b)
  have C2 := Lib.hid (fun W a b => copied_any (zn s.num) s.num.natAbs s.den A' D' n' k' c' d' W hl' hm' (by omega) (by omega) a b)
  have RR : Hid (∀ W, Below w.heap.size w W → RdS W A (vi (zm r.num)) ∧ RdS W D (vi (nd r.den)) ∧ RdS W A' (vi (zm s.num)) ∧ RdS W D' (vi (nd s.den))) := Lib.hid (fun W hb => ⟨hA.below hb, hD.below hb, hA'.below hb, hD'.below hb⟩)
  clear hl hm hl' hm' hr hs hA hD hA' hD' hr1 hr2 hs1 hs2
  by_cases hc : 0 < cmpQ r s
  · rw [show maxQ r s = some r from if_pos hc]
    show Calls _ _ _ _ (MadeR w.heap.size (zn r.num) (zm r.num) (nd r.den) w)
    unfold zm at H0 HO RR ⊢
    generalize cmpQ r s = v at HO hc
    generalize nd r.num.natAbs = La at *
    generalize nd s.num.natAbs = Lb at *
    generalize nd r.den = Da at *
    generalize nd s.den = Db at *
    generalize zn r.num = pr at *
    generalize zn s.num = ps at *
    go_enter Tryz.func25, Tryz.ntmps25
    go_wp2_with fail
    have kb := ba3 w (.cells #[.bool pr, .slice A n c, .slice D k d] 33) (.cells #[.bool ps, .slice A' n' c', .slice D' k' d'] 33) (.cells #[.bool false, .slice none 0 0, .slice none 0 0] 33)
    obtain ⟨P_r, P_s, P_o⟩ := blocks3 w (.cells #[.bool pr, .slice A n c, .slice D k d] 33) (.cells #[.bool ps, .slice A' n' c', .slice D' k' d'] 33) (.cells #[.bool false, .slice none 0 0, .slice none 0 0] 33)
    generalize ((w.alloc (.cells #[.bool pr, .slice A n c, .slice D k d] 33)).alloc (.cells #[.bool ps, .slice A' n' c', .slice D' k' d'] 33)).alloc (.cells #[.bool false, .slice none 0 0, .slice none 0 0] 33) = W1 at kb P_r P_s P_o ⊢
    obtain ⟨rr, hrr⟩ : ∃ r, r = w.heap.size + 1 + 1 := ⟨_, rfl⟩
    rw [← hrr] at P_o ⊢
    have hrr3 : w.heap.size ≤ rr := by omega
    have nr_r : rr ≠ w.heap.size := by omega
    have nr_s : rr ≠ w.heap.size + 1 := by omega
    clear hrr
    refine (H0.out _ (RR.out _ kb).1 (RR.out _ kb).2.1 (RR.out _ kb).2.2.1 (RR.out _ kb).2.2.2).mono ?_
    rintro e W2 ⟨rfl, hb⟩
    replace P_r := rblk_below P_r hb
    replace P_s := rblk_below P_s hb
    replace P_o := rblk_below P_o hb
    replace kb := bt kb hb
    clear hb
    have c_r0 : W2.cell? ⟨w.heap.size, 0, none⟩ = some (.bool pr) := rblk_cell P_r 0
    have c_r1 : W2.cell? ⟨w.heap.size, 1, none⟩ = some (.slice A n c) := rblk_cell P_r 1
    have c_r2 : W2.cell? ⟨w.heap.size, 2, none⟩ = some (.slice D k d) := rblk_cell P_r 2
    have c_s0 : W2.cell? ⟨w.heap.size + 1, 0, none⟩ = some (.bool ps) := rblk_cell P_s 0
    have c_s1 : W2.cell? ⟨w.heap.size + 1, 1, none⟩ = some (.slice A' n' c') := rblk_cell P_s 1
    have c_s2 : W2.cell? ⟨w.heap.size + 1, 2, none⟩ = some (.slice D' k' d') := rblk_cell P_s 2
    go_wp2_with fail
    clear c_r0 c_r1 c_r2 c_s0 c_s1 c_s2
    refine (HO.out _ (RR.out _ kb).1 (RR.out _ kb).2.1 (RR.out _ kb).2.2.1 (RR.out _ kb).2.2.2).mono ?_
    rintro e W3 ⟨rfl, hb⟩
    replace P_r := rblk_below P_r hb
    replace P_s := rblk_below P_s hb
    replace P_o := rblk_below P_o hb
    replace kb := bt kb hb
    clear hb
    have c_r0 : W3.cell? ⟨w.heap.size, 0, none⟩ = some (.bool pr) := rblk_cell P_r 0
    have c_r1 : W3.cell? ⟨w.heap.size, 1, none⟩ = some (.slice A n c) := rblk_cell P_r 1
    have c_r2 : W3.cell? ⟨w.heap.size, 2, none⟩ = some (.slice D k d) := rblk_cell P_r 2
    have c_s0 : W3.cell? ⟨w.heap.size + 1, 0, none⟩ = some (.bool ps) := rblk_cell P_s 0
    have c_s1 : W3.cell? ⟨w.heap.size + 1, 1, none⟩ = some (.slice A' n' c') := rblk_cell P_s 1
    have c_s2 : W3.cell? ⟨w.heap.size + 1, 2, none⟩ = some (.slice D' k' d') := rblk_cell P_s 2
    go_wp2_with fail
    clear c_r0 c_r1 c_r2 c_s0 c_s1 c_s2
    have hltr := rblk_lt P_o
    refine (C1.out _ (RR.out _ kb).1 (RR.out _ kb).2.1).mono ?_
    rintro e W4 ⟨A3, c3, D3, d3, rfl, hc3, hd3, o3, o4, hap3, hb⟩
    replace P_r := rblk_below P_r hb
    replace P_s := rblk_below P_s hb
    replace P_o := rblk_below P_o hb
    replace kb := bt kb hb
    clear hb
    have c_o0 : W4.cell? ⟨rr, 0, none⟩ = some (.bool false) := rblk_cell P_o 0
    have c_o1 : W4.cell? ⟨rr, 1, none⟩ = some (.slice none 0 0) := rblk_cell P_o 1
    have c_o2 : W4.cell? ⟨rr, 2, none⟩ = some (.slice none 0 0) := rblk_cell P_o 2
    have f_o0 := rblk_free P_o 0
    have f_o1 := rblk_free P_o 1
    have f_o2 := rblk_free P_o 2
    go_wp2
    exact bodyPost_ret (v := .agg #[.bool pr, .slice A3 La.length c3, .slice D3 Da.length d3]) (by simp [results, Tryz.results25, go_sem, c_o0, c_o1, c_o2]) rfl ⟨A3, c3, D3, d3, rfl, hc3, hd3, (own_put3 o3 hltr _ _ _).more (Nat.le_trans hrr3 (Nat.le_of_lt hltr)), (own_put3 o4 hltr _ _ _).more (Nat.le_trans hrr3 (Nat.le_of_lt hltr)), hap3, below_put3 kb hrr3 _ _ _⟩
  · rw [show maxQ r s = some s from if_neg hc]
    show Calls _ _ _ _ (MadeR w.heap.size (zn s.num) (zm s.num) (nd s.den) w)
    unfold zm at H0 HO RR ⊢
    generalize cmpQ r s = v at HO hc
    generalize nd r.num.natAbs = La at *
    generalize nd s.num.natAbs = Lb at *
    generalize nd r.den = Da at *
    generalize nd s.den = Db at *
    generalize zn r.num = pr at *
    generalize zn s.num = ps at *
    go_enter Tryz.func25, Tryz.ntmps25
    go_wp2_with fail
    have kb := ba3 w (.cells #[.bool pr, .slice A n c, .slice D k d] 33) (.cells #[.bool ps, .slice A' n' c', .slice D' k' d'] 33) (.cells #[.bool false, .slice none 0 0, .slice none 0 0] 33)
    obtain ⟨P_r, P_s, P_o⟩ := blocks3 w (.cells #[.bool pr, .slice A n c, .slice D k d] 33) (.cells #[.bool ps, .slice A' n' c', .slice D' k' d'] 33) (.cells #[.bool false, .slice none 0 0, .slice none 0 0] 33)
    generalize ((w.alloc (.cells #[.bool pr, .slice A n c, .slice D k d] 33)).alloc (.cells #[.bool ps, .slice A' n' c', .slice D' k' d'] 33)).alloc (.cells #[.bool false, .slice none 0 0, .slice none 0 0] 33) = W1 at kb P_r P_s P_o ⊢
    obtain ⟨rr, hrr⟩ : ∃ r, r = w.heap.size + 1 + 1 := ⟨_, rfl⟩
    rw [← hrr] at P_o ⊢
    have hrr3 : w.heap.size ≤ rr := by omega
    have nr_r : rr ≠ w.heap.size := by omega
    have nr_s : rr ≠ w.heap.size + 1 := by omega
    clear hrr
    refine (H0.out _ (RR.out _ kb).1 (RR.out _ kb).2.1 (RR.out _ kb).2.2.1 (RR.out _ kb).2.2.2).mono ?_
    rintro e W2 ⟨rfl, hb⟩
    replace P_r := rblk_below P_r hb
    replace P_s := rblk_below P_s hb
    replace P_o := rblk_below P_o hb
    replace kb := bt kb hb
    clear hb
    have c_r0 : W2.cell? ⟨w.heap.size, 0, none⟩ = some (.bool pr) := rblk_cell P_r 0
    have c_r1 : W2.cell? ⟨w.heap.size, 1, none⟩ = some (.slice A n c) := rblk_cell P_r 1
    have c_r2 : W2.cell? ⟨w.heap.size, 2, none⟩ = some (.slice D k d) := rblk_cell P_r 2
    have c_s0 : W2.cell? ⟨w.heap.size + 1, 0, none⟩ = some (.bool ps) := rblk_cell P_s 0
    have c_s1 : W2.cell? ⟨w.heap.size + 1, 1, none⟩ = some (.slice A' n' c') := rblk_cell P_s 1
    have c_s2 : W2.cell? ⟨w.heap.size + 1, 2, none⟩ = some (.slice D' k' d') := rblk_cell P_s 2
    go_wp2_with fail
    clear c_r0 c_r1 c_r2 c_s0 c_s1 c_s2
    refine (HO.out _ (RR.out _ kb).1 (RR.out _ kb).2.1 (RR.out _ kb).2.2.1 (RR.out _ kb).2.2.2).mono ?_
    rintro e W3 ⟨rfl, hb⟩
    replace P_r := rblk_below P_r hb
    replace P_s := rblk_below P_s hb
    replace P_o := rblk_below P_o hb
    replace kb := bt kb hb
    clear hb
    have c_r0 : W3.cell? ⟨w.heap.size, 0, none⟩ = some (.bool pr) := rblk_cell P_r 0
    have c_r1 : W3.cell? ⟨w.heap.size, 1, none⟩ = some (.slice A n c) := rblk_cell P_r 1
    have c_r2 : W3.cell? ⟨w.heap.size, 2, none⟩ = some (.slice D k d) := rblk_cell P_r 2
    have c_s0 : W3.cell? ⟨w.heap.size + 1, 0, none⟩ = some (.bool ps) := rblk_cell P_s 0
    have c_s1 : W3.cell? ⟨w.heap.size + 1, 1, none⟩ = some (.slice A' n' c') := rblk_cell P_s 1
    have c_s2 : W3.cell? ⟨w.heap.size + 1, 2, none⟩ = some (.slice D' k' d') := rblk_cell P_s 2
    go_wp2_with fail
    clear c_r0 c_r1 c_r2 c_s0 c_s1 c_s2
    have hltr := rblk_lt P_o
    refine (C2.out _ (RR.out _ kb).2.2.1 (RR.out _ kb).2.2.2).mono ?_
    rintro e W4 ⟨A3, c3, D3, d3, rfl, hc3, hd3, o3, o4, hap3, hb⟩
    replace P_r := rblk_below P_r hb
    replace P_s := rblk_below P_s hb
    replace P_o := rblk_below P_o hb
    replace kb := bt kb hb
    clear hb
    have c_o0 : W4.cell? ⟨rr, 0, none⟩ = some (.bool false) := rblk_cell P_o 0
    have c_o1 : W4.cell? ⟨rr, 1, none⟩ = some (.slice none 0 0) := rblk_cell P_o 1
    have c_o2 : W4.cell? ⟨rr, 2, none⟩ = some (.slice none 0 0) := rblk_cell P_o 2
    have f_o0 := rblk_free P_o 0
    have f_o1 := rblk_free P_o 1
    have f_o2 := rblk_free P_o 2
    go_wp2
    exact bodyPost_ret (v := .agg #[.bool ps, .slice A3 Lb.length c3, .slice D3 Db.length d3]) (by simp [results, Tryz.results25, go_sem, c_o0, c_o1, c_o2]) rfl ⟨A3, c3, D3, d3, rfl, hc3, hd3, (own_put3 o3 hltr _ _ _).more (Nat.le_trans hrr3 (Nat.le_of_lt hltr)), (own_put3 o4 hltr _ _ _).more (Nat.le_trans hrr3 (Nat.le_of_lt hltr)), hap3, below_put3 kb hrr3 _ _ _⟩

set_option maxHeartbeats 1000000 in
theorem impl_rmax_no (pr ps : Bool) (l m l' m' : List Int) (A D A' D' : Option Addr) (n k n' k' c d c' d' : Nat) (w : World) (hl : l.length = n) (hm : m.length = k) (hl' : l'.length = n') (hm' : m'.length = k')
    (hn : n ≤ 9223372036854775807) (hk : k ≤ 9223372036854775807) (hn' : n' ≤ 9223372036854775807) (hk' : k' ≤ 9223372036854775807)
    (hA : RdS w A (vi l)) (hD : RdS w D (vi m)) (hA' : RdS w A' (vi l')) (hD' : RdS w D' (vi m')) (h0 : (okR pr l m && okR ps l' m') = false) :
    Calls Tryz.prog 25 #[.agg #[.bool pr, .slice A n c, .slice D k d], .agg #[.bool ps, .slice A' n' c', .slice D' k' d']] w (MadeR w.heap.size false [] [] w) := by
  have H0 := Lib.hid (fun W a b a' b' => are_rats pr ps l m l' m' A D A' D' n k n' k' c d c' d' W hl hm hl' hm' hn hk hn' hk' a b a' b')
  rw [h0] at H0
  have RR : Hid (∀ W, Below w.heap.size w W → RdS W A (vi l) ∧ RdS W D (vi m) ∧ RdS W A' (vi l') ∧ RdS W D' (vi m')) := Lib.hid (fun W hb => ⟨hA.below hb, hD.below hb, hA'.below hb, hD'.below hb⟩)
  clear h0 hA hD hA' hD' hl hm hl' hm' hn hk hn' hk'
  go_enter Tryz.func25, Tryz.ntmps25
  go_wp2_with fail
  have kb := ba3 w (.cells #[.bool pr, .slice A n c, .slice D k d] 33) (.cells #[.bool ps, .slice A' n' c', .slice D' k' d'] 33) (.cells #[.bool false, .slice none 0 0, .slice none 0 0] 33)
  obtain ⟨P_r, P_s, P_o⟩ := blocks3 w (.cells #[.bool pr, .slice A n c, .slice D k d] 33) (.cells #[.bool ps, .slice A' n' c', .slice D' k' d'] 33) (.cells #[.bool false, .slice none 0 0, .slice none 0 0] 33)
  generalize ((w.alloc (.cells #[.bool pr, .slice A n c, .slice D k d] 33)).alloc (.cells #[.bool ps, .slice A' n' c', .slice D' k' d'] 33)).alloc (.cells #[.bool false, .slice none 0 0, .slice none 0 0] 33) = W1 at kb P_r P_s P_o ⊢
  obtain ⟨rr, hrr⟩ : ∃ r, r = w.heap.size + 1 + 1 := ⟨_, rfl⟩
  rw [← hrr] at P_o ⊢
  have hrr3 : w.heap.size ≤ rr := by omega
  have nr_r : rr ≠ w.heap.size := by omega
  have nr_s : rr ≠ w.heap.size + 1 := by omega
  clear hrr
  refine (H0.out _ (RR.out _ kb).1 (RR.out _ kb).2.1 (RR.out _ kb).2.2.1 (RR.out _ kb).2.2.2).mono ?_
  rintro e W2 ⟨rfl, hb⟩
  replace P_r := rblk_below P_r hb
  replace P_s := rblk_below P_s hb
  replace P_o := rblk_below P_o hb
  replace kb := bt kb hb
  clear hb
  have c_r0 : W2.cell? ⟨w.heap.size, 0, none⟩ = some (.bool pr) := rblk_cell P_r 0
  have c_r1 : W2.cell? ⟨w.heap.size, 1, none⟩ = some (.slice A n c) := rblk_cell P_r 1
  have c_r2 : W2.cell? ⟨w.heap.size, 2, none⟩ = some (.slice D k d) := rblk_cell P_r 2
  have c_s0 : W2.cell? ⟨w.heap.size + 1, 0, none⟩ = some (.bool ps) := rblk_cell P_s 0
  have c_s1 : W2.cell? ⟨w.heap.size + 1, 1, none⟩ = some (.slice A' n' c') := rblk_cell P_s 1
  have c_s2 : W2.cell? ⟨w.heap.size + 1, 2, none⟩ = some (.slice D' k' d') := rblk_cell P_s 2
  have c_o0 : W2.cell? ⟨rr, 0, none⟩ = some (.bool false) := rblk_cell P_o 0
  have c_o1 : W2.cell? ⟨rr, 1, none⟩ = some (.slice none 0 0) := rblk_cell P_o 1
  have c_o2 : W2.cell? ⟨rr, 2, none⟩ = some (.slice none 0 0) := rblk_cell P_o 2
  have f_o0 := rblk_free P_o 0
  have f_o1 := rblk_free P_o 1
  have f_o2 := rblk_free P_o 2
  go_wp2
  exact bodyPost_ret (v := .agg #[.bool false, .slice none 0 0, .slice none 0 0]) (by simp [results, Tryz.results25, go_sem, c_o0, c_o1, c_o2]) rfl ⟨none, 0, none, 0, rfl, Nat.le_refl _, Nat.le_refl _, .inl rfl, .inl rfl, (fun a h => by simp [rowOf] at h), below_put3 kb hrr3 _ _ _⟩

theorem impl_rmax (pr ps : Bool) (l m l' m' : List Int) (A D A' D' : Option Addr) (n k n' k' c d c' d' : Nat) (w : World) (hl : l.length = n) (hm : m.length = k) (hl' : l'.length = n') (hm' : m'.length = k')
    (hn : n ≤ 9223372036854775807) (hk : k ≤ 9223372036854775807) (hn' : n' ≤ 9223372036854775807) (hk' : k' ≤ 9223372036854775807)
    (hA : RdS w A (vi l)) (hD : RdS w D (vi m)) (hA' : RdS w A' (vi l')) (hD' : RdS w D' (vi m')) :
    Calls Tryz.prog 25 #[.agg #[.bool pr, .slice A n c, .slice D k d], .agg #[.bool ps, .slice A' n' c', .slice D' k' d']] w (MadeR w.heap.size (qn (binQ maxQ (valQ pr l m) (valQ ps l' m'))) (ql (binQ maxQ (valQ pr l m) (valQ ps l' m'))) (qd (binQ maxQ (valQ pr l m) (valQ ps l' m'))) w) := by
  by_cases h0 : (okR pr l m && okR ps l' m') = true
  · rw [Bool.and_eq_true] at h0
    exact impl_rmax_yes pr ps l m l' m' A D A' D' n k n' k' c d c' d' w hl hm hl' hm' hn hk hn' hk' hA hD hA' hD' h0.1 h0.2
  · have h0' : (okR pr l m && okR ps l' m') = false := by simpa using h0
    rw [binQ_no h0']
    exact impl_rmax_no pr ps l m l' m' A D A' D' n k n' k' c d c' d' w hl hm hl' hm' hn hk hn' hk' hA hD hA' hD' h0'
end Go.Proofs.YtkmfbanlkglkmabGreatDoor

namespace Go.Proofs.YtkmfbanlkglkmabGreatDoor
open Go.ChangeShapes Go.WideShapes Go.ChangeAt Go.RowKit
open Go.ChangeMaps (open_string shut_string)
set_option linter.unusedVariables false
set_option linter.unusedSimpArgs false
set_option maxRecDepth 4000

attribute [local go_sem ↓] Go.wp_at_zero Go.wp_at_succ

set_option maxHeartbeats 1000000 in
theorem impl_rcmp (pr ps : Bool) (l m l' m' : List Int) (A D A' D' : Option Addr) (n k n' k' c d c' d' : Nat) (w : World) (hl : l.length = n) (hm : m.length = k) (hl' : l'.length = n') (hm' : m'.length = k')
    (hn : n ≤ 9223372036854775807) (hk : k ≤ 9223372036854775807) (hn' : n' ≤ 9223372036854775807) (hk' : k' ≤ 9223372036854775807)
    (hA : RdS w A (vi l)) (hD : RdS w D (vi m)) (hA' : RdS w A' (vi l')) (hD' : RdS w D' (vi m')) :
    Calls Tryz.prog 22 #[.agg #[.bool pr, .slice A n c, .slice D k d], .agg #[.bool ps, .slice A' n' c', .slice D' k' d']] w fun e w' => e = .returned (.int .i64 (cmpO (valQ pr l m) (valQ ps l' m'))) ∧ Below w.heap.size w w' := by
  have H0 := Lib.hid (fun W a b a' b' => are_rats pr ps l m l' m' A D A' D' n k n' k' c d c' d' W hl hm hl' hm' hn hk hn' hk' a b a' b')
  by_cases h0 : (okR pr l m && okR ps l' m') = true
  · rw [h0] at H0
    rw [Bool.and_eq_true] at h0
    obtain ⟨r, e1, e2, e3, hr⟩ := okR_q h0.1
    obtain ⟨s, e4, e5, e6, hs⟩ := okR_q h0.2
    have hv : cmpO (valQ pr l m) (valQ ps l' m') = cmpQ r s := by rw [e1, e2, e3, e4, e5, e6, valQ_yes hr, valQ_yes hs]; rfl
    rw [hv]
    clear hv h0 hn hk hn' hk'
    subst e1 e2 e3 e4 e5 e6
    have HO := Lib.hid (fun W a b a' b' => order_q r s A D A' D' n k n' k' c d c' d' W hr hs hl hm hl' hm' a b a' b')
    have RR : Hid (∀ W, Below w.heap.size w W → RdS W A (vi (zm r.num)) ∧ RdS W D (vi (nd r.den)) ∧ RdS W A' (vi (zm s.num)) ∧ RdS W D' (vi (nd s.den))) := Lib.hid (fun W hb => ⟨hA.below hb, hD.below hb, hA'.below hb, hD'.below hb⟩)
    clear hl hm hl' hm' hr hs hA hD hA' hD'
    generalize cmpQ r s = v at HO ⊢
    generalize zm r.num = La at *
    generalize zm s.num = Lb at *
    generalize nd r.den = Da at *
    generalize nd s.den = Db at *
    generalize zn r.num = pr at *
    generalize zn s.num = ps at *
    go_enter Tryz.func22, Tryz.ntmps22
    go_wp2_with fail
    have kb := ba2 w (.cells #[.bool pr, .slice A n c, .slice D k d] 33) (.cells #[.bool ps, .slice A' n' c', .slice D' k' d'] 33)
    obtain ⟨P_r, P_s⟩ := blocks2 w (.cells #[.bool pr, .slice A n c, .slice D k d] 33) (.cells #[.bool ps, .slice A' n' c', .slice D' k' d'] 33)
    generalize (w.alloc (.cells #[.bool pr, .slice A n c, .slice D k d] 33)).alloc (.cells #[.bool ps, .slice A' n' c', .slice D' k' d'] 33) = W1 at kb P_r P_s ⊢
    refine (H0.out _ (RR.out _ kb).1 (RR.out _ kb).2.1 (RR.out _ kb).2.2.1 (RR.out _ kb).2.2.2).mono ?_
    rintro e W2 ⟨rfl, hb⟩
    replace P_r := rblk_below P_r hb
    replace P_s := rblk_below P_s hb
    replace kb := bt kb hb
    clear hb
    have c_r0 : W2.cell? ⟨w.heap.size, 0, none⟩ = some (.bool pr) := rblk_cell P_r 0
    have c_r1 : W2.cell? ⟨w.heap.size, 1, none⟩ = some (.slice A n c) := rblk_cell P_r 1
    have c_r2 : W2.cell? ⟨w.heap.size, 2, none⟩ = some (.slice D k d) := rblk_cell P_r 2
    have c_s0 : W2.cell? ⟨w.heap.size + 1, 0, none⟩ = some (.bool ps) := rblk_cell P_s 0
    have c_s1 : W2.cell? ⟨w.heap.size + 1, 1, none⟩ = some (.slice A' n' c') := rblk_cell P_s 1
    have c_s2 : W2.cell? ⟨w.heap.size + 1, 2, none⟩ = some (.slice D' k' d') := rblk_cell P_s 2
    go_wp2_with fail
    clear c_r0 c_r1 c_r2 c_s0 c_s1 c_s2
    refine (HO.out _ (RR.out _ kb).1 (RR.out _ kb).2.1 (RR.out _ kb).2.2.1 (RR.out _ kb).2.2.2).mono ?_
    rintro e W3 ⟨rfl, hb⟩
    replace P_r := rblk_below P_r hb
    replace P_s := rblk_below P_s hb
    replace kb := bt kb hb
    clear hb
    go_wp2
    go_ret
    exact ⟨rfl, kb⟩
  · have h0' : (okR pr l m && okR ps l' m') = false := by simpa using h0
    have hv : cmpO (valQ pr l m) (valQ ps l' m') = 0 := by
      rw [Bool.and_eq_false_iff] at h0'
      rcases h0' with h | h
      · rw [valQ_no h]; rfl
      · rw [valQ_no h]; cases valQ pr l m <;> rfl
    rw [hv]
    rw [h0'] at H0
    have RR : Hid (∀ W, Below w.heap.size w W → RdS W A (vi l) ∧ RdS W D (vi m) ∧ RdS W A' (vi l') ∧ RdS W D' (vi m')) := Lib.hid (fun W hb => ⟨hA.below hb, hD.below hb, hA'.below hb, hD'.below hb⟩)
    clear hv h0 h0' hA hD hA' hD' hl hm hl' hm' hn hk hn' hk'
    go_enter Tryz.func22, Tryz.ntmps22
    go_wp2_with fail
    have kb := ba2 w (.cells #[.bool pr, .slice A n c, .slice D k d] 33) (.cells #[.bool ps, .slice A' n' c', .slice D' k' d'] 33)
    obtain ⟨P_r, P_s⟩ := blocks2 w (.cells #[.bool pr, .slice A n c, .slice D k d] 33) (.cells #[.bool ps, .slice A' n' c', .slice D' k' d'] 33)
    generalize (w.alloc (.cells #[.bool pr, .slice A n c, .slice D k d] 33)).alloc (.cells #[.bool ps, .slice A' n' c', .slice D' k' d'] 33) = W1 at kb P_r P_s ⊢
    refine (H0.out _ (RR.out _ kb).1 (RR.out _ kb).2.1 (RR.out _ kb).2.2.1 (RR.out _ kb).2.2.2).mono ?_
    rintro e W2 ⟨rfl, hb⟩
    replace P_r := rblk_below P_r hb
    replace P_s := rblk_below P_s hb
    replace kb := bt kb hb
    clear hb
    go_wp2
    go_ret
    exact ⟨rfl, kb⟩

/-- The sign of a fraction; 0 where it is none. -/
def sgnO (x : Option Rat) : Int := match x with
  | some r => cmpZ r.num 0
  | none => 0
set_option maxHeartbeats 1000000 in
theorem impl_rsign (pr : Bool) (l m : List Int) (A D : Option Addr) (n k c d : Nat) (w : World) (hl : l.length = n) (hm : m.length = k) (hn : n ≤ 9223372036854775807) (hk : k ≤ 9223372036854775807) (hA : RdS w A (vi l)) (hD : RdS w D (vi m)) :
    Calls Tryz.prog 23 #[.agg #[.bool pr, .slice A n c, .slice D k d]] w fun e w' => e = .returned (.int .i64 (sgnO (valQ pr l m))) ∧ Below w.heap.size w w' := by
  have H1 := Lib.hid (fun W h h' => impl_rok pr l m A D n c k d W hl hm hn hk h h')
  by_cases h1 : okR pr l m = true
  · rw [h1] at H1
    obtain ⟨r, e1, e2, e3, hr⟩ := okR_q h1
    have hv : sgnO (valQ pr l m) = cmpZ r.num 0 := by rw [e1, e2, e3, valQ_yes hr]; rfl
    rw [hv]
    clear hv h1 hn hk
    subst e1 e2 e3
    have hr1 := hr.1
    have HO := Lib.hid (fun W a => sign_any r.num A D n k c d W (by rw [← zm_length]; exact hl) (by rw [← hl, zm_length]; omega) a)
    rw [show nd r.num.natAbs = zm r.num from rfl] at HO
    have RR : Hid (∀ W, Below w.heap.size w W → RdS W A (vi (zm r.num)) ∧ RdS W D (vi (nd r.den))) := Lib.hid (fun W hb => ⟨hA.below hb, hD.below hb⟩)
    clear hr1 hl hm hr hA hD
    generalize cmpZ r.num 0 = v at HO ⊢
    generalize zm r.num = La at *
    generalize nd r.den = Da at *
    generalize zn r.num = pr at *
    go_enter Tryz.func23, Tryz.ntmps23
    go_wp2_with fail
    have kb := ba1 w (.cells #[.bool pr, .slice A n c, .slice D k d] 33)
    have P_r := heap_alloc_new w (.cells #[.bool pr, .slice A n c, .slice D k d] 33)
    generalize w.alloc (.cells #[.bool pr, .slice A n c, .slice D k d] 33) = W1 at kb P_r ⊢
    refine (H1.out _ (RR.out _ kb).1 (RR.out _ kb).2).mono ?_
    rintro e W2 ⟨rfl, hb⟩
    replace P_r := rblk_below P_r hb
    replace kb := bt kb hb
    clear hb
    have c_r0 : W2.cell? ⟨w.heap.size, 0, none⟩ = some (.bool pr) := rblk_cell P_r 0
    have c_r1 : W2.cell? ⟨w.heap.size, 1, none⟩ = some (.slice A n c) := rblk_cell P_r 1
    have c_r2 : W2.cell? ⟨w.heap.size, 2, none⟩ = some (.slice D k d) := rblk_cell P_r 2
    go_wp2_with fail
    clear c_r0 c_r1 c_r2
    refine (HO.out _ (RR.out _ kb).1).mono ?_
    rintro e W3 ⟨rfl, hb⟩
    replace P_r := rblk_below P_r hb
    replace kb := bt kb hb
    clear hb
    go_wp2
    go_ret
    exact ⟨rfl, kb⟩
  · have h1' : okR pr l m = false := by simpa using h1
    rw [h1'] at H1
    rw [valQ_no h1']
    show Calls _ _ _ _ fun e w' => e = .returned (.int .i64 0) ∧ Below w.heap.size w w'
    have RR : Hid (∀ W, Below w.heap.size w W → RdS W A (vi l) ∧ RdS W D (vi m)) := Lib.hid (fun W hb => ⟨hA.below hb, hD.below hb⟩)
    clear h1 h1' hA hD hl hm hn hk
    go_enter Tryz.func23, Tryz.ntmps23
    go_wp2_with fail
    have kb := ba1 w (.cells #[.bool pr, .slice A n c, .slice D k d] 33)
    have P_r := heap_alloc_new w (.cells #[.bool pr, .slice A n c, .slice D k d] 33)
    generalize w.alloc (.cells #[.bool pr, .slice A n c, .slice D k d] 33) = W1 at kb P_r ⊢
    refine (H1.out _ (RR.out _ kb).1 (RR.out _ kb).2).mono ?_
    rintro e W2 ⟨rfl, hb⟩
    replace P_r := rblk_below P_r hb
    replace kb := bt kb hb
    clear hb
    go_wp2
    go_ret
    exact ⟨rfl, kb⟩

end Go.Proofs.YtkmfbanlkglkmabGreatDoor

