/-
  Fractions of the program: the small methods ('exists', 'limited', 'divided', 'scaled', 'copied', 'negated', 'inverse', 'sign', 'order').
-/
import Derived.Test.YtennekieiioilaaPkD
import Derived.Test.YtennekieiioilaaPkB
import Derived.Deep.DrawnRows
import Derived.Deep.DeepCutAuto
namespace Go.Proofs.Ytennekieiioilaa
open Go.ChangeShapes Go.WideShapes Go.ChangeAt Go.RowKit
open Go.ChangeMaps (open_string shut_string)
set_option linter.unusedVariables false
set_option linter.unusedSimpArgs false
set_option maxRecDepth 4000

attribute [local go_sem ↓] Go.wp_at_zero Go.wp_at_succ

set_option maxHeartbeats 400000 in
theorem exists_any (p : Bool) (A D : Option Addr) (n k c d : Nat) (w : World) (hk : k ≤ 9223372036854775807) :
    Calls Try.prog 45 #[.agg #[.bool p, .slice A n c, .slice D k d]] w fun e w' => e = .returned (.bool (decide (0 < k))) ∧ Below w.heap.size w w' := by
  by_cases h : 0 < k
  · have hz : (0 : Int) < (k : Int) := by omega
    have hd : decide (0 < k) = true := decide_eq_true h
    go_enter Try.func45, Try.ntmps45
    go_wp2
    go_ret
    exact ⟨ret_bool' hd.symm, ba1 _ _⟩
  · have hz : ¬ (0 : Int) < (k : Int) := by omega
    have hd : decide (0 < k) = false := decide_eq_false h
    go_enter Try.func45, Try.ntmps45
    go_wp2
    go_ret
    exact ⟨by first | exact ret_bool' hd.symm | rfl, ba1 _ _⟩
theorem own_same {B : Nat} {w : World} {A A' : Option Addr} {L : List Int} (h : L = [] ∨ A' = A) (o : OwnS B w A (vi L)) : OwnS B w A' (vi L) := by
  rcases h with h | h
  · exact .inl (by rw [h]; rfl)
  · rw [h]; exact o
theorem apart_same {L : List Int} {A A' : Option Addr} {k : Nat} {D : Option Addr} (h : L = [] ∨ A' = A) (o : Apart L.length A k D) : Apart L.length A' k D := by
  rcases h with h | h
  · intro a ha; rw [h] at ha; simp [rowOf] at ha
  · rw [h]; exact o

end Go.Proofs.Ytennekieiioilaa

namespace Go.Proofs.Ytennekieiioilaa
open Go.ChangeShapes Go.WideShapes Go.ChangeAt Go.RowKit
open Go.ChangeMaps (open_string shut_string)
set_option linter.unusedVariables false
set_option linter.unusedSimpArgs false
set_option maxRecDepth 4000

attribute [local go_sem ↓] Go.wp_at_zero Go.wp_at_succ

theorem zn_mul_pos (x : Int) (f : Nat) (hf : 0 < f) : zn (x * (f : Int)) = zn x := by
  unfold zn
  have hfi : (0 : Int) < (f : Int) := by omega
  by_cases h : x < 0
  · rw [decide_eq_true h, decide_eq_true (Int.mul_neg_of_neg_of_pos h hfi)]
  · have := Int.mul_nonneg (show 0 ≤ x by omega) (Int.le_of_lt hfi)
    rw [decide_eq_false h, decide_eq_false (by omega)]
theorem zm_mul (x : Int) (f : Nat) : zm (x * (f : Int)) = nd (x.natAbs * f) := by unfold zm; rw [Int.natAbs_mul, Int.natAbs_natCast]
set_option maxHeartbeats 1000000 in
theorem sign_any (x : Int) (A D : Option Addr) (n k c d : Nat) (w : World) (hn : ln x.natAbs = n) (h60 : n ≤ 60) (hA : RdS w A (vi (nd x.natAbs))) :
    Calls Try.prog 28 #[.agg #[.bool (zn x), .slice A n c, .slice D k d]] w fun e w' => e = .returned (.int .i64 (cmpZ x 0)) ∧ Below w.heap.size w w' := by
  have HO := Lib.hid (fun W h => order_any x 0 A none n c 0 0 W hn (by rw [show (0 : Int).natAbs = 0 from rfl, ln_zero]) h60 (by omega) h (.inl (by rw [zm_zero]; rfl)))
  rw [zn_zero] at HO
  unfold zm at HO
  have RR : Hid (∀ W, Below w.heap.size w W → RdS W A (vi (nd x.natAbs))) := Lib.hid (fun W hb => hA.below hb)
  clear hn hA
  generalize nd x.natAbs = L at HO RR
  generalize cmpZ x 0 = v at HO ⊢
  generalize zn x = pr at HO ⊢
  go_enter Try.func28, Try.ntmps28
  go_wp2_with fail
  have kb := ba1 w (.cells #[.bool pr, .slice A n c, .slice D k d] 45)
  have P_r := heap_alloc_new w (.cells #[.bool pr, .slice A n c, .slice D k d] 45)
  generalize w.alloc (.cells #[.bool pr, .slice A n c, .slice D k d] 45) = W1 at kb P_r ⊢
  refine (signedOf_any _ _ _ _ _).mono ?_
  rintro e W2 ⟨rfl, hb⟩
  replace P_r := rblk_below P_r hb
  replace kb := bt kb hb
  clear hb
  go_wp2_with fail
  refine (HO.out _ (RR.out _ kb)).mono ?_
  rintro e W3 ⟨rfl, hb⟩
  replace P_r := rblk_below P_r hb
  replace kb := bt kb hb
  clear hb
  go_wp2
  go_ret
  exact ⟨rfl, kb⟩

end Go.Proofs.Ytennekieiioilaa

namespace Go.Proofs.Ytennekieiioilaa
open Go.ChangeShapes Go.WideShapes Go.ChangeAt Go.RowKit
open Go.ChangeMaps (open_string shut_string)
set_option linter.unusedVariables false
set_option linter.unusedSimpArgs false
set_option maxRecDepth 4000

attribute [local go_sem ↓] Go.wp_at_zero Go.wp_at_succ

/-- 'inverse' of a fraction. -/
def invQ (r : Rat) : Option Rat := if r.num = 0 then none else some r⁻¹
end Go.Proofs.Ytennekieiioilaa

namespace Go.Proofs.Ytennekieiioilaa
open Go.ChangeShapes Go.WideShapes Go.ChangeAt Go.RowKit
open Go.ChangeMaps (open_string shut_string)
set_option linter.unusedVariables false
set_option linter.unusedSimpArgs false
set_option maxRecDepth 4000

attribute [local go_sem ↓] Go.wp_at_zero Go.wp_at_succ

theorem ln_div (a g : Nat) : ln (a / g) ≤ ln a := ln_mono (Nat.div_le_self _ _)
theorem ln_gcd {a b : Nat} (hb : 0 < b) : ln (Nat.gcd a b) ≤ ln b := ln_mono (Nat.le_of_dvd hb (Nat.gcd_dvd_right a b))
theorem hp_mul (r s : Rat) (g h : Nat) (e1 : (r * s).num.natAbs = (r.num.natAbs / g) * (s.num.natAbs / h)) (e3 : zn (r * s).num = zn (r.num * s.num)) : ((!(zn r.num == zn s.num)) && decide (nd (r * s).num.natAbs ≠ [])) = zn (r * s).num := by
  by_cases h0 : (r * s).num = 0
  · rw [h0, show (0 : Int).natAbs = 0 from rfl, nd_zero, zn_zero]; simp
  · have hv : (r * s).num.natAbs ≠ 0 := by omega
    rw [decide_eq_true (nd_pos hv), Bool.and_true, e3]
    have hr0 : r.num.natAbs ≠ 0 := by rintro e; rw [e, Nat.zero_div, Nat.zero_mul] at e1; exact hv e1
    have hs0 : s.num.natAbs ≠ 0 := by rintro e; rw [e, Nat.zero_div, Nat.mul_zero] at e1; exact hv e1
    have := sgn_zn (!(zn r.num == zn s.num)) (r.num.natAbs * s.num.natAbs)
    rw [show sgn (!(zn r.num == zn s.num)) (r.num.natAbs * s.num.natAbs) = r.num * s.num from times_z r.num s.num, decide_eq_true (Nat.mul_ne_zero hr0 hs0), Bool.and_true] at this
    exact this.symm
end Go.Proofs.Ytennekieiioilaa

namespace Go.Proofs.Ytennekieiioilaa
open Go.ChangeShapes Go.WideShapes Go.ChangeAt Go.RowKit
open Go.ChangeMaps (open_string shut_string)
set_option linter.unusedVariables false
set_option linter.unusedSimpArgs false
set_option maxRecDepth 4000

attribute [local go_sem ↓] Go.wp_at_zero Go.wp_at_succ

theorem OwnS.putR {B lo hi b o : Nat} {w : World} {A : Option Addr} {l : List Int} (h : OwnS B w A (vi l)) (hr : InR l.length A lo hi) (hb : b < lo ∨ hi ≤ b) (v : Value) : OwnS B (w.setCell ⟨b, o, none⟩ v) A (vi l) := by
  rcases h with h | ⟨g, ha, hB, hs, hc, hf⟩
  · exact .inl h
  · by_cases h0 : l.length = 0
    · exact .inl (by rw [List.eq_nil_of_length_eq_zero h0]; rfl)
    · have hg := hr g (by rw [rowOf, if_neg h0, ha]; rfl)
      refine .inr ⟨g, ha, hB, by simpa [World.setCell] using hs, fun j hj => ?_, fun j hj => ?_⟩
      · rw [World.cell?_setCell_other w ⟨b, o, none⟩ ⟨g, j, none⟩ v (by intro q; injection q with q1 _; omega)]
        exact hc j hj
      · rw [World.frozen?_setCell]; exact hf j hj
theorem hp_add (p : Bool) (N : Int) (e : Nat) (h : sgn p N.natAbs = N) (he : 0 < e) (hd : e ∣ N.natAbs) : (p && decide (nd (N.natAbs / e) ≠ [])) = zn N := by
  have h1 := sgn_zn p N.natAbs
  rw [h] at h1
  rw [h1]
  congr 1
  by_cases h0 : N.natAbs = 0
  · rw [h0, Nat.zero_div, nd_zero]; simp
  · have := Nat.div_pos (Nat.le_of_dvd (by omega) hd) he
    rw [decide_eq_true h0, decide_eq_true (nd_pos (by omega))]
theorem plus_n (x y : Int) : plusN (zn x) x.natAbs (zn y) y.natAbs = (x + y).natAbs ∧ sgn (plusB (zn x) x.natAbs (zn y) y.natAbs) (x + y).natAbs = x + y := by
  have h : sgn (plusB (zn x) x.natAbs (zn y) y.natAbs) (plusN (zn x) x.natAbs (zn y) y.natAbs) = x + y := plus_z x y
  have h2 : plusN (zn x) x.natAbs (zn y) y.natAbs = (x + y).natAbs := by rw [← h, sgn_abs]
  rw [h2] at h
  exact ⟨h2, h⟩
end Go.Proofs.Ytennekieiioilaa

namespace Go.Proofs.Ytennekieiioilaa
open Go.ChangeShapes Go.WideShapes Go.ChangeAt Go.RowKit
open Go.ChangeMaps (open_string shut_string)
set_option linter.unusedVariables false
set_option linter.unusedSimpArgs false
set_option maxRecDepth 4000

attribute [local go_sem ↓] Go.wp_at_zero Go.wp_at_succ

/-- 'times' where the second may be none. -/
def mulO (r : Rat) (o : Option Rat) : Option Rat := match o with
  | none => none
  | some s => mulQ r s
theorem invQ_fit {s : Rat} (h : Fit s) : ∀ t, invQ s = some t → Fit t := by
  intro t ht
  unfold invQ at ht
  split at ht
  · cases ht
  · injection ht with ht; rw [← ht]; exact inv_fit h (by assumption)
theorem mulO_inv (r s : Rat) : mulO r (invQ s) = quoQ r s := by
  unfold invQ quoQ
  split
  · rfl
  · show cutQ (r * s⁻¹) = cutQ (r / s)
    rw [Rat.div_def]
end Go.Proofs.Ytennekieiioilaa

namespace Go.Proofs.Ytennekieiioilaa
open Go.ChangeShapes Go.WideShapes Go.ChangeAt Go.RowKit
open Go.ChangeMaps (open_string shut_string)
set_option linter.unusedVariables false
set_option linter.unusedSimpArgs false
set_option maxRecDepth 4000

attribute [local go_sem ↓] Go.wp_at_zero Go.wp_at_succ

set_option maxHeartbeats 400000 in
theorem isOne_any (l : List Int) (A : Option Addr) (n c : Nat) (w : World) (hl : l.length = n) (hn : n ≤ 9223372036854775807) (hA : RdS w A (vi l)) :
    Calls Try.prog 46 #[.slice A n c] w fun e w' => e = .returned (.bool (decide (l = [1]))) ∧ Below w.heap.size w w' := by
  by_cases h1 : n = 1
  · subst h1
    obtain ⟨x, rfl⟩ : ∃ x, l = [x] := by
      match l, hl with
      | [x], _ => exact ⟨x, rfl⟩
    obtain ⟨b1, o1, rfl, hb1, e1⟩ := hA.int (k := 0) (x := x) rfl
    rw [Nat.add_zero] at e1
    clear hA
    have hq : decide ([x] = [1]) = (x == 1) := by by_cases h : x = 1 <;> simp [h]
    rw [hq]
    go_enter Try.func46, Try.ntmps46
    go_wp2
    go_ret
    exact ⟨rfl, Below.refl _ _⟩
  · have hq : decide (l = [1]) = false := decide_eq_false (fun h => h1 (by rw [← hl, h]; rfl))
    rw [hq]
    have hz : ((n : Int) == 1) = false := by rw [beq_eq_false_iff_ne]; omega
    clear hA hl
    go_enter Try.func46, Try.ntmps46
    go_wp2
    go_ret
    exact ⟨rfl, Below.refl _ _⟩


set_option maxHeartbeats 1000000 in
theorem iok_b (p : Bool) (l m : List Int) (A D : Option Addr) (n c k d : Nat) (w : World) (hl : l.length = n) (hm : m.length = k) (hn : n ≤ 9223372036854775807) (hk : k ≤ 9223372036854775807) (hb : okB p l = false) (hA : RdS w A (vi l)) (hD : RdS w D (vi m)) :
    Calls Try.prog 27 #[.agg #[.bool p, .slice A n c, .slice D k d]] w fun e w' => e = .returned (.bool (false)) ∧ Below w.heap.size w w' := by
  have HB := Lib.hid (fun W h => impl_bok p l A n c W hl hn h)
  rw [hb] at HB
  have RR : Hid (∀ W, Below w.heap.size w W → RdS W A (vi l) ∧ RdS W D (vi m)) := Lib.hid (fun W hb => ⟨hA.below hb, hD.below hb⟩)
  clear hl hm hb hA hD
  go_enter Try.func27, Try.ntmps27
  go_wp2_with fail
  have kb := ba1 w (.cells #[.bool p, .slice A n c, .slice D k d] 45)
  have P_r := heap_alloc_new w (.cells #[.bool p, .slice A n c, .slice D k d] 45)
  generalize w.alloc (.cells #[.bool p, .slice A n c, .slice D k d] 45) = W1 at kb P_r ⊢
  refine (HB.out _ (RR.out _ kb).1).mono ?_
  rintro e W2 ⟨rfl, hb⟩
  replace P_r := rblk_below P_r hb
  replace kb := bt kb hb
  clear hb
  have c_r0 : W2.cell? ⟨w.heap.size, 0, none⟩ = some (.bool p) := rblk_cell P_r 0
  have c_r1 : W2.cell? ⟨w.heap.size, 1, none⟩ = some (.slice A n c) := rblk_cell P_r 1
  have c_r2 : W2.cell? ⟨w.heap.size, 2, none⟩ = some (.slice D k d) := rblk_cell P_r 2
  go_wp2
  go_ret
  exact ⟨rfl, kb⟩

set_option maxHeartbeats 1000000 in
theorem iok_o (p : Bool) (l m : List Int) (A D : Option Addr) (n c k d : Nat) (w : World) (hl : l.length = n) (hm : m.length = k) (hn : n ≤ 9223372036854775807) (hk : k ≤ 9223372036854775807) (hb : okB p l = true) (ho : ok m = false) (hA : RdS w A (vi l)) (hD : RdS w D (vi m)) :
    Calls Try.prog 27 #[.agg #[.bool p, .slice A n c, .slice D k d]] w fun e w' => e = .returned (.bool (false)) ∧ Below w.heap.size w w' := by
  have HB := Lib.hid (fun W h => impl_bok p l A n c W hl hn h)
  have HO := Lib.hid (fun W h => impl_ok m D k d W hm hk h)
  rw [hb] at HB
  rw [ho] at HO
  have RR : Hid (∀ W, Below w.heap.size w W → RdS W A (vi l) ∧ RdS W D (vi m)) := Lib.hid (fun W hb => ⟨hA.below hb, hD.below hb⟩)
  clear hl hm hb ho hA hD
  go_enter Try.func27, Try.ntmps27
  go_wp2_with fail
  have kb := ba1 w (.cells #[.bool p, .slice A n c, .slice D k d] 45)
  have P_r := heap_alloc_new w (.cells #[.bool p, .slice A n c, .slice D k d] 45)
  generalize w.alloc (.cells #[.bool p, .slice A n c, .slice D k d] 45) = W1 at kb P_r ⊢
  refine (HB.out _ (RR.out _ kb).1).mono ?_
  rintro e W2 ⟨rfl, hb⟩
  replace P_r := rblk_below P_r hb
  replace kb := bt kb hb
  clear hb
  have c_r0 : W2.cell? ⟨w.heap.size, 0, none⟩ = some (.bool p) := rblk_cell P_r 0
  have c_r1 : W2.cell? ⟨w.heap.size, 1, none⟩ = some (.slice A n c) := rblk_cell P_r 1
  have c_r2 : W2.cell? ⟨w.heap.size, 2, none⟩ = some (.slice D k d) := rblk_cell P_r 2
  go_wp2_with fail
  clear c_r0 c_r1 c_r2
  refine (HO.out _ (RR.out _ kb).2).mono ?_
  rintro e _ ⟨rfl, rfl⟩
  go_wp2
  go_ret
  exact ⟨rfl, kb⟩

set_option maxHeartbeats 1000000 in
theorem iok_n (p : Bool) (l m : List Int) (A D : Option Addr) (n c k d : Nat) (w : World) (hl : l.length = n) (hm : m.length = k) (hn : n ≤ 9223372036854775807) (hk : k ≤ 9223372036854775807) (hb : okB p l = true) (ho : ok m = true) (h1 : 24 < n) (hA : RdS w A (vi l)) (hD : RdS w D (vi m)) :
    Calls Try.prog 27 #[.agg #[.bool p, .slice A n c, .slice D k d]] w fun e w' => e = .returned (.bool (false)) ∧ Below w.heap.size w w' := by
  have HB := Lib.hid (fun W h => impl_bok p l A n c W hl hn h)
  have HO := Lib.hid (fun W h => impl_ok m D k d W hm hk h)
  rw [hb] at HB
  rw [ho] at HO
  have RR : Hid (∀ W, Below w.heap.size w W → RdS W A (vi l) ∧ RdS W D (vi m)) := Lib.hid (fun W hb => ⟨hA.below hb, hD.below hb⟩)
  have h1' : (24 : Int) < (n : Int) := by omega
  clear hl hm hb ho hA hD h1
  go_enter Try.func27, Try.ntmps27
  go_wp2_with fail
  have kb := ba1 w (.cells #[.bool p, .slice A n c, .slice D k d] 45)
  have P_r := heap_alloc_new w (.cells #[.bool p, .slice A n c, .slice D k d] 45)
  generalize w.alloc (.cells #[.bool p, .slice A n c, .slice D k d] 45) = W1 at kb P_r ⊢
  refine (HB.out _ (RR.out _ kb).1).mono ?_
  rintro e W2 ⟨rfl, hb⟩
  replace P_r := rblk_below P_r hb
  replace kb := bt kb hb
  clear hb
  have c_r0 : W2.cell? ⟨w.heap.size, 0, none⟩ = some (.bool p) := rblk_cell P_r 0
  have c_r1 : W2.cell? ⟨w.heap.size, 1, none⟩ = some (.slice A n c) := rblk_cell P_r 1
  have c_r2 : W2.cell? ⟨w.heap.size, 2, none⟩ = some (.slice D k d) := rblk_cell P_r 2
  go_wp2_with fail
  clear c_r0 c_r1 c_r2
  refine (HO.out _ (RR.out _ kb).2).mono ?_
  rintro e _ ⟨rfl, rfl⟩
  have c_r0 : W2.cell? ⟨w.heap.size, 0, none⟩ = some (.bool p) := rblk_cell P_r 0
  have c_r1 : W2.cell? ⟨w.heap.size, 1, none⟩ = some (.slice A n c) := rblk_cell P_r 1
  have c_r2 : W2.cell? ⟨w.heap.size, 2, none⟩ = some (.slice D k d) := rblk_cell P_r 2
  go_wp2
  go_ret
  exact ⟨rfl, kb⟩

set_option maxHeartbeats 1000000 in
theorem iok_k (p : Bool) (l m : List Int) (A D : Option Addr) (n c k d : Nat) (w : World) (hl : l.length = n) (hm : m.length = k) (hn : n ≤ 9223372036854775807) (hk : k ≤ 9223372036854775807) (hb : okB p l = true) (ho : ok m = true) (h1 : ¬ 24 < n) (h2 : 24 < k) (hA : RdS w A (vi l)) (hD : RdS w D (vi m)) :
    Calls Try.prog 27 #[.agg #[.bool p, .slice A n c, .slice D k d]] w fun e w' => e = .returned (.bool (false)) ∧ Below w.heap.size w w' := by
  have HB := Lib.hid (fun W h => impl_bok p l A n c W hl hn h)
  have HO := Lib.hid (fun W h => impl_ok m D k d W hm hk h)
  rw [hb] at HB
  rw [ho] at HO
  have RR : Hid (∀ W, Below w.heap.size w W → RdS W A (vi l) ∧ RdS W D (vi m)) := Lib.hid (fun W hb => ⟨hA.below hb, hD.below hb⟩)
  have h1' : ¬ (24 : Int) < (n : Int) := by omega
  have h2' : (24 : Int) < (k : Int) := by omega
  clear hl hm hb ho hA hD h1 h2
  go_enter Try.func27, Try.ntmps27
  go_wp2_with fail
  have kb := ba1 w (.cells #[.bool p, .slice A n c, .slice D k d] 45)
  have P_r := heap_alloc_new w (.cells #[.bool p, .slice A n c, .slice D k d] 45)
  generalize w.alloc (.cells #[.bool p, .slice A n c, .slice D k d] 45) = W1 at kb P_r ⊢
  refine (HB.out _ (RR.out _ kb).1).mono ?_
  rintro e W2 ⟨rfl, hb⟩
  replace P_r := rblk_below P_r hb
  replace kb := bt kb hb
  clear hb
  have c_r0 : W2.cell? ⟨w.heap.size, 0, none⟩ = some (.bool p) := rblk_cell P_r 0
  have c_r1 : W2.cell? ⟨w.heap.size, 1, none⟩ = some (.slice A n c) := rblk_cell P_r 1
  have c_r2 : W2.cell? ⟨w.heap.size, 2, none⟩ = some (.slice D k d) := rblk_cell P_r 2
  go_wp2_with fail
  clear c_r0 c_r1 c_r2
  refine (HO.out _ (RR.out _ kb).2).mono ?_
  rintro e _ ⟨rfl, rfl⟩
  have c_r0 : W2.cell? ⟨w.heap.size, 0, none⟩ = some (.bool p) := rblk_cell P_r 0
  have c_r1 : W2.cell? ⟨w.heap.size, 1, none⟩ = some (.slice A n c) := rblk_cell P_r 1
  have c_r2 : W2.cell? ⟨w.heap.size, 2, none⟩ = some (.slice D k d) := rblk_cell P_r 2
  go_wp2
  go_ret
  exact ⟨rfl, kb⟩

set_option maxHeartbeats 1000000 in
theorem iok_e (p : Bool) (l m : List Int) (A D : Option Addr) (n c k d : Nat) (w : World) (hl : l.length = n) (hm : m.length = k) (hn : n ≤ 9223372036854775807) (hk : k ≤ 9223372036854775807) (hb : okB p l = true) (ho : ok m = true) (h1 : ¬ 24 < n) (h2 : k = 0) (hA : RdS w A (vi l)) (hD : RdS w D (vi m)) :
    Calls Try.prog 27 #[.agg #[.bool p, .slice A n c, .slice D k d]] w fun e w' => e = .returned (.bool (false)) ∧ Below w.heap.size w w' := by
  have HB := Lib.hid (fun W h => impl_bok p l A n c W hl hn h)
  have HO := Lib.hid (fun W h => impl_ok m D k d W hm hk h)
  rw [hb] at HB
  rw [ho] at HO
  have RR : Hid (∀ W, Below w.heap.size w W → RdS W A (vi l) ∧ RdS W D (vi m)) := Lib.hid (fun W hb => ⟨hA.below hb, hD.below hb⟩)
  have h1' : ¬ (24 : Int) < (n : Int) := by omega
  have h2' : ¬ (24 : Int) < (k : Int) := by omega
  have EX := Lib.hid (fun W => exists_any p A D n k c d W hk)
  rw [decide_eq_false (show ¬ 0 < k by omega)] at EX
  clear hl hm hb ho hA hD h1 h2
  go_enter Try.func27, Try.ntmps27
  go_wp2_with fail
  have kb := ba1 w (.cells #[.bool p, .slice A n c, .slice D k d] 45)
  have P_r := heap_alloc_new w (.cells #[.bool p, .slice A n c, .slice D k d] 45)
  generalize w.alloc (.cells #[.bool p, .slice A n c, .slice D k d] 45) = W1 at kb P_r ⊢
  refine (HB.out _ (RR.out _ kb).1).mono ?_
  rintro e W2 ⟨rfl, hb⟩
  replace P_r := rblk_below P_r hb
  replace kb := bt kb hb
  clear hb
  have c_r0 : W2.cell? ⟨w.heap.size, 0, none⟩ = some (.bool p) := rblk_cell P_r 0
  have c_r1 : W2.cell? ⟨w.heap.size, 1, none⟩ = some (.slice A n c) := rblk_cell P_r 1
  have c_r2 : W2.cell? ⟨w.heap.size, 2, none⟩ = some (.slice D k d) := rblk_cell P_r 2
  go_wp2_with fail
  clear c_r0 c_r1 c_r2
  refine (HO.out _ (RR.out _ kb).2).mono ?_
  rintro e _ ⟨rfl, rfl⟩
  have c_r0 : W2.cell? ⟨w.heap.size, 0, none⟩ = some (.bool p) := rblk_cell P_r 0
  have c_r1 : W2.cell? ⟨w.heap.size, 1, none⟩ = some (.slice A n c) := rblk_cell P_r 1
  have c_r2 : W2.cell? ⟨w.heap.size, 2, none⟩ = some (.slice D k d) := rblk_cell P_r 2
  go_wp2_with fail
  clear c_r0 c_r1 c_r2
  refine (EX.out _).mono ?_
  rintro e W3 ⟨rfl, hb⟩
  replace P_r := rblk_below P_r hb
  replace kb := bt kb hb
  clear hb
  go_wp2
  go_ret
  exact ⟨rfl, kb⟩

set_option maxHeartbeats 1000000 in
theorem iok_g (p : Bool) (l m : List Int) (A D : Option Addr) (n c k d : Nat) (w : World) (hl : l.length = n) (hm : m.length = k) (hn : n ≤ 9223372036854775807) (hk : k ≤ 9223372036854775807) (z b : Nat) (hz : l = nd z) (hbb : m = nd b) (hb : okB p l = true) (ho : ok m = true) (hk1 : 0 < k) (hk2 : k ≤ 24) (hn2 : n ≤ 24) (hA : RdS w A (vi l)) (hD : RdS w D (vi m)) :
    Calls Try.prog 27 #[.agg #[.bool p, .slice A n c, .slice D k d]] w fun e w' => e = .returned (.bool (decide (Nat.gcd z b = 1))) ∧ Below w.heap.size w w' := by
  have HB := Lib.hid (fun W h => impl_bok p l A n c W hl hn h)
  have HO := Lib.hid (fun W h => impl_ok m D k d W hm hk h)
  rw [hb] at HB
  rw [ho] at HO
  have hzn : ln z = n := by rw [← nd_length, ← hz, hl]
  have hbk : ln b = k := by rw [← nd_length, ← hbb, hm]
  have HG := Lib.hid (fun W h h' => impl_gcd z b A D n c k d W hzn hbk (by omega) (by omega) h h')
  rw [← hz, ← hbb] at HG
  have hgl : (nd (Nat.gcd z b)).length ≤ 9223372036854775807 := by
    rw [nd_length]
    have hb0 : 0 < b := by rcases Nat.eq_zero_or_pos b with h | h; (subst h; rw [ln_zero] at hbk; omega); exact h
    have := ln_mono (Nat.le_of_dvd hb0 (Nat.gcd_dvd_right z b)); omega
  have hq : decide (Nat.gcd z b = 1) = decide (nd (Nat.gcd z b) = [1]) := by
    have e1 : nd 1 = [1] := by unfold nd; rw [ln_pos (by decide), show 1 / 1000000000 = 0 by decide, ln_zero]; decide
    by_cases h : Nat.gcd z b = 1
    · rw [decide_eq_true h, decide_eq_true (show nd (Nat.gcd z b) = [1] by rw [h, e1])]
    · rw [decide_eq_false h, decide_eq_false (fun e => h (nd_inj (by rw [e, e1])))]
  rw [hq]
  generalize nd (Nat.gcd z b) = G at HG hgl ⊢
  have H1 := Lib.hid (fun A' c' W h => isOne_any G A' _ c' W rfl hgl h)
  generalize decide (G = [1]) = v at H1 ⊢
  have h2 : ¬ (24 : Int) < (k : Int) := by omega
  have h3 : ¬ (24 : Int) < (n : Int) := by omega
  have EX := Lib.hid (fun W => exists_any p A D n k c d W hk)
  rw [decide_eq_true hk1] at EX
  have RR : Hid (∀ W, Below w.heap.size w W → RdS W A (vi l) ∧ RdS W D (vi m)) := Lib.hid (fun W hb => ⟨hA.below hb, hD.below hb⟩)
  clear hq hgl hzn hbk hz hbb hl hm hb ho hA hD
  go_enter Try.func27, Try.ntmps27
  go_wp2_with fail
  have kb := ba1 w (.cells #[.bool p, .slice A n c, .slice D k d] 45)
  have P_r := heap_alloc_new w (.cells #[.bool p, .slice A n c, .slice D k d] 45)
  generalize w.alloc (.cells #[.bool p, .slice A n c, .slice D k d] 45) = W1 at kb P_r ⊢
  refine (HB.out _ (RR.out _ kb).1).mono ?_
  rintro e W2 ⟨rfl, hb⟩
  replace P_r := rblk_below P_r hb
  replace kb := bt kb hb
  clear hb
  have c_r0 : W2.cell? ⟨w.heap.size, 0, none⟩ = some (.bool p) := rblk_cell P_r 0
  have c_r1 : W2.cell? ⟨w.heap.size, 1, none⟩ = some (.slice A n c) := rblk_cell P_r 1
  have c_r2 : W2.cell? ⟨w.heap.size, 2, none⟩ = some (.slice D k d) := rblk_cell P_r 2
  go_wp2_with fail
  clear c_r0 c_r1 c_r2
  refine (HO.out _ (RR.out _ kb).2).mono ?_
  rintro e _ ⟨rfl, rfl⟩
  have c_r0 : W2.cell? ⟨w.heap.size, 0, none⟩ = some (.bool p) := rblk_cell P_r 0
  have c_r1 : W2.cell? ⟨w.heap.size, 1, none⟩ = some (.slice A n c) := rblk_cell P_r 1
  have c_r2 : W2.cell? ⟨w.heap.size, 2, none⟩ = some (.slice D k d) := rblk_cell P_r 2
  go_wp2_with fail
  clear c_r0 c_r1 c_r2
  refine (EX.out _).mono ?_
  rintro e W3 ⟨rfl, hb⟩
  replace P_r := rblk_below P_r hb
  replace kb := bt kb hb
  clear hb
  have c_r0 : W3.cell? ⟨w.heap.size, 0, none⟩ = some (.bool p) := rblk_cell P_r 0
  have c_r1 : W3.cell? ⟨w.heap.size, 1, none⟩ = some (.slice A n c) := rblk_cell P_r 1
  have c_r2 : W3.cell? ⟨w.heap.size, 2, none⟩ = some (.slice D k d) := rblk_cell P_r 2
  go_wp2_with fail
  clear c_r0 c_r1 c_r2
  refine (HG.out _ (RR.out _ kb).1 (RR.out _ kb).2).mono ?_
  rintro e W4 ⟨A5, c5, rfl, o5, hb⟩
  replace P_r := rblk_below P_r hb
  replace kb := bt kb hb
  clear hb
  go_wp2_with fail
  refine (H1.out _ _ _ o5.rd).mono ?_
  rintro e W5 ⟨rfl, hb⟩
  replace P_r := rblk_below P_r hb
  replace o5 := o5.below hb
  replace kb := bt kb hb
  clear hb
  go_wp2
  go_ret
  exact ⟨rfl, kb⟩

/-- 'RatOk' of the program. -/
theorem impl_rok (p : Bool) (l m : List Int) (A D : Option Addr) (n c k d : Nat) (w : World) (hl : l.length = n) (hm : m.length = k) (hn : n ≤ 9223372036854775807) (hk : k ≤ 9223372036854775807) (hA : RdS w A (vi l)) (hD : RdS w D (vi m)) :
    Calls Try.prog 27 #[.agg #[.bool p, .slice A n c, .slice D k d]] w fun e w' => e = .returned (.bool (okR p l m)) ∧ Below w.heap.size w w' := by
  by_cases h1 : okB p l = true
  · by_cases h2 : ok m = true
    · by_cases h3 : k = 0 ∨ 24 < k ∨ 24 < n
      · have e : okR p l m = false := by
          unfold okR
          rcases h3 with h | h | h
          · rw [decide_eq_false (show ¬ m ≠ [] from fun h0 => h0 (List.eq_nil_of_length_eq_zero (by omega)))]; simp
          · rw [decide_eq_false (show ¬ m.length ≤ 24 by omega)]; simp
          · rw [decide_eq_false (show ¬ l.length ≤ 24 by omega)]; simp
        rw [e]
        by_cases g1 : 24 < n
        · exact iok_n p l m A D n c k d w hl hm hn hk h1 h2 g1 hA hD
        · by_cases g2 : 24 < k
          · exact iok_k p l m A D n c k d w hl hm hn hk h1 h2 g1 g2 hA hD
          · exact iok_e p l m A D n c k d w hl hm hn hk h1 h2 g1 (by omega) hA hD
      · obtain ⟨z, _, hz, _⟩ := okB_z h1
        obtain ⟨b, hb, _⟩ := ok_nd h2
        have hm0 : m ≠ [] := fun e => by rw [e] at hm; simp at hm; omega
        have e : okR p l m = decide (Nat.gcd z.natAbs b = 1) := by
          unfold okR
          rw [h1, h2, decide_eq_true hm0, decide_eq_true (show m.length ≤ 24 by omega), decide_eq_true (show l.length ≤ 24 by omega), hz, hb, val_zm, val_nd]
          simp
        rw [e]
        exact iok_g p l m A D n c k d w hl hm hn hk z.natAbs b hz hb h1 h2 (by omega) (by omega) (by omega) hA hD
    · have h2' : ok m = false := by simpa using h2
      have e : okR p l m = false := by unfold okR; rw [h2']; simp
      rw [e]
      exact iok_o p l m A D n c k d w hl hm hn hk h1 h2' hA hD
  · have h1' : okB p l = false := by simpa using h1
    have e : okR p l m = false := by unfold okR; rw [h1']; simp
    rw [e]
    exact iok_b p l m A D n c k d w hl hm hn hk h1' hA hD

end Go.Proofs.Ytennekieiioilaa

namespace Go.Proofs.Ytennekieiioilaa
open Go.ChangeShapes Go.WideShapes Go.ChangeAt Go.RowKit
open Go.ChangeMaps (open_string shut_string)
set_option linter.unusedVariables false
set_option linter.unusedSimpArgs false
set_option maxRecDepth 4000

attribute [local go_sem ↓] Go.wp_at_zero Go.wp_at_succ

end Go.Proofs.Ytennekieiioilaa

