/-
  Fractions of the program: the small methods ('exists', 'limited', 'divided', 'scaled', 'copied', 'negated', 'inverse', 'sign', 'order').
-/
import Derived.Test.YtjcbaiphkchehaaPkD
import Derived.Test.YtjcbaiphkchehaaPkB
import Derived.Deep.DrawnRows
import Derived.Deep.DeepCutAuto
namespace Go.Proofs.Ytjcbaiphkchehaa
open Go.ChangeShapes Go.WideShapes Go.ChangeAt Go.RowKit
open Go.ChangeMaps (open_string shut_string)
set_option linter.unusedVariables false
set_option linter.unusedSimpArgs false
set_option maxRecDepth 4000

attribute [local go_sem ↓] Go.wp_at_zero Go.wp_at_succ

set_option maxHeartbeats 400000 in
theorem divided_any (a b : Nat) (A D : Option Addr) (n c n' d : Nat) (w : World) (hn : ln a = n) (hn' : ln b = n') (h60 : n ≤ 60) (h60' : n' ≤ 60) (hb0 : 0 < n') (hA : RdS w A (vi (nd a))) (hD : RdS w D (vi (nd b))) :
    Calls Try.prog 46 #[.slice A n c, .slice D n' d] w (MadeI w.heap.size (nd (a / b)) w) := by
  have H := Lib.hid (impl_div a b A D n c n' d w hn hn' h60 h60' hb0 hA hD)
  clear hn hn' hb0 hA hD
  generalize nd (a / b) = L at H ⊢
  generalize nd (a % b) = M at H
  go_enter Try.func46, Try.ntmps46
  go_wp2_with fail
  refine H.out.mono ?_
  rintro e w1 ⟨A1, c1, D1, d1, rfl, hc1, hd1, o1, o2, hb, _⟩
  go_wp2
  go_ret
  exact ⟨A1, c1, rfl, hc1, o1, hb⟩
/-- 'bigInt' hands the row itself on. -/
theorem bigInt_same (p : Bool) (L : List Int) (A : Option Addr) (n c : Nat) (w : World) (hn : L.length = n) (h6 : n ≤ 1048576) (hc : n ≤ c) :
    Calls Try.prog 42 #[.agg #[.bool p, .slice A n c]] w fun e w' => ∃ A' c', e = .returned (.agg #[.bool (p && decide (L ≠ [])), .slice A' L.length c']) ∧ L.length ≤ c' ∧ (L = [] ∨ A' = A) ∧ Below w.heap.size w w' := by
  have H := fun W => Lib.hid (isZero_any A n c W h6)
  by_cases h0 : n = 0
  · have hL : L = [] := List.eq_nil_of_length_eq_zero (hn.trans h0)
    subst hL
    have hd : decide (n = 0) = true := decide_eq_true h0
    rw [hd] at H
    rw [show (p && decide (([] : List Int) ≠ [])) = false by simp]
    clear hn h0 hd
    go_enter Try.func42, Try.ntmps42
    go_wp2_with fail
    refine (H _).out.mono ?_
    rintro e w1 ⟨rfl, rfl⟩
    go_wp2
    exact bodyPost_ret (v := .agg #[.bool false, .slice none 0 0]) (by simp [results, Try.results42, go_sem]) rfl ⟨none, 0, rfl, Nat.le_refl _, (by simp), ba2 _ _ _⟩
  · have hd : decide (n = 0) = false := decide_eq_false h0
    rw [hd] at H
    have hL : decide (L ≠ []) = true := decide_eq_true (by rintro rfl; exact h0 hn.symm)
    rw [hL, Bool.and_true]
    have HN := Lib.hid hn
    clear hn h0 hd hL
    go_enter Try.func42, Try.ntmps42
    go_wp2_with fail
    refine (H _).out.mono ?_
    rintro e w1 ⟨rfl, rfl⟩
    go_wp2
    exact bodyPost_ret (v := .agg #[.bool p, .slice A n c]) (by simp [results, Try.results42, go_sem]) rfl ⟨A, c, by rw [HN.out], by rw [HN.out]; exact hc, .inr rfl, ba2 _ _ _⟩
theorem own_same {B : Nat} {w : World} {A A' : Option Addr} {L : List Int} (h : L = [] ∨ A' = A) (o : OwnS B w A (vi L)) : OwnS B w A' (vi L) := by
  rcases h with h | h
  · exact .inl (by rw [h]; rfl)
  · rw [h]; exact o
theorem apart_same {L : List Int} {A A' : Option Addr} {k : Nat} {D : Option Addr} (h : L = [] ∨ A' = A) (o : Apart L.length A k D) : Apart L.length A' k D := by
  rcases h with h | h
  · intro a ha; rw [h] at ha; simp [rowOf] at ha
  · rw [h]; exact o

set_option maxHeartbeats 1000000 in
theorem limited_yes (B : Nat) (p : Bool) (L M : List Int) (A D : Option Addr) (c d : Nat) (w : World) (hn : L.length ≤ 24) (hk : M.length ≤ 24) (hc : L.length ≤ c) (hd : M.length ≤ d) (oA : OwnS B w A (vi L)) (oD : OwnS B w D (vi M)) (hap : Apart L.length A M.length D) :
    Calls Try.prog 47 #[.agg #[.bool p, .slice A L.length c], .slice D M.length d] w (MadeR B (p && decide (L ≠ [])) L M w) := by
  have h1 : ¬ (24 : Int) < ((L.length : Nat) : Int) := by omega
  have h2 : ¬ (24 : Int) < ((M.length : Nat) : Int) := by omega
  have HB := Lib.hid (fun A c W hc => bigInt_same p L A L.length c W rfl (by omega) hc)
  generalize (p && decide (L ≠ [])) = sg at HB ⊢
  go_enter Try.func47, Try.ntmps47
  go_wp2_with fail
  have kb := ba2 w (.cells #[.bool p, .slice A L.length c] 68) (.cells #[.bool false, .slice none 0 0, .slice none 0 0] 37)
  obtain ⟨P_x, P_o⟩ := blocks2 w (.cells #[.bool p, .slice A L.length c] 68) (.cells #[.bool false, .slice none 0 0, .slice none 0 0] 37)
  generalize (w.alloc (.cells #[.bool p, .slice A L.length c] 68)).alloc (.cells #[.bool false, .slice none 0 0, .slice none 0 0] 37) = W1 at kb P_x P_o ⊢
  obtain ⟨rr, hrr⟩ : ∃ r, r = w.heap.size + 1 := ⟨_, rfl⟩
  rw [← hrr] at P_o ⊢
  have hrr3 : w.heap.size ≤ rr := by omega
  have nr_x : rr ≠ w.heap.size := by omega
  clear hrr
  refine (HB.out _ _ _ hc).mono ?_
  rintro e W2 ⟨A3, c3, rfl, hc3, hsame, hb⟩
  replace P_x := rblk_below P_x hb
  replace P_o := rblk_below P_o hb
  replace kb := bt kb hb
  clear hb
  have c_o0 : W2.cell? ⟨rr, 0, none⟩ = some (.bool false) := rblk_cell P_o 0
  have c_o1 : W2.cell? ⟨rr, 1, none⟩ = some (.slice none 0 0) := rblk_cell P_o 1
  have c_o2 : W2.cell? ⟨rr, 2, none⟩ = some (.slice none 0 0) := rblk_cell P_o 2
  have f_o0 := rblk_free P_o 0
  have f_o1 := rblk_free P_o 1
  have f_o2 := rblk_free P_o 2
  go_wp2
  exact bodyPost_ret (v := .agg #[.bool sg, .slice A3 L.length c3, .slice D M.length d]) (by simp [results, Try.results47, go_sem, c_o0, c_o1, c_o2]) rfl ⟨A3, c3, D, d, rfl, hc3, hd, own_same hsame (oA.below (below_put3 kb hrr3 _ _ _)), oD.below (below_put3 kb hrr3 _ _ _), apart_same hsame hap, below_put3 kb hrr3 _ _ _⟩

set_option maxHeartbeats 1000000 in
theorem limited_n (B : Nat) (p : Bool) (L M : List Int) (A D : Option Addr) (c d : Nat) (w : World) (hn : 24 < L.length) :
    Calls Try.prog 47 #[.agg #[.bool p, .slice A L.length c], .slice D M.length d] w (MadeR B false [] [] w) := by
  have h1 : (24 : Int) < ((L.length : Nat) : Int) := by omega
  go_enter Try.func47, Try.ntmps47
  go_wp2
  exact bodyPost_ret (v := .agg #[.bool false, .slice none 0 0, .slice none 0 0]) (by simp [results, Try.results47, go_sem]) rfl ⟨none, 0, none, 0, rfl, Nat.le_refl _, Nat.le_refl _, .inl rfl, .inl rfl, (fun a h => by simp [rowOf] at h), ba2 _ _ _⟩

set_option maxHeartbeats 1000000 in
theorem limited_k (B : Nat) (p : Bool) (L M : List Int) (A D : Option Addr) (c d : Nat) (w : World) (hn : L.length ≤ 24) (hk : 24 < M.length) :
    Calls Try.prog 47 #[.agg #[.bool p, .slice A L.length c], .slice D M.length d] w (MadeR B false [] [] w) := by
  have h1 : ¬ (24 : Int) < ((L.length : Nat) : Int) := by omega
  have h2 : (24 : Int) < ((M.length : Nat) : Int) := by omega
  go_enter Try.func47, Try.ntmps47
  go_wp2
  exact bodyPost_ret (v := .agg #[.bool false, .slice none 0 0, .slice none 0 0]) (by simp [results, Try.results47, go_sem]) rfl ⟨none, 0, none, 0, rfl, Nat.le_refl _, Nat.le_refl _, .inl rfl, .inl rfl, (fun a h => by simp [rowOf] at h), ba2 _ _ _⟩

/-- 'limited' of the parts of a fraction. -/
theorem limited_q (B : Nat) (v : Rat) (p : Bool) (A D : Option Addr) (c d : Nat) (w : World) (hp : (p && decide (nd v.num.natAbs ≠ [])) = zn v.num) (hc : (nd v.num.natAbs).length ≤ c) (hd : (nd v.den).length ≤ d) (oA : OwnS B w A (vi (nd v.num.natAbs))) (oD : OwnS B w D (vi (nd v.den))) (hap : Apart (nd v.num.natAbs).length A (nd v.den).length D) :
    Calls Try.prog 47 #[.agg #[.bool p, .slice A (nd v.num.natAbs).length c], .slice D (nd v.den).length d] w (MadeR B (qn (cutQ v)) (ql (cutQ v)) (qd (cutQ v)) w) := by
  by_cases h : Fit v
  · rw [cutQ_in h]
    have h1 := h.1; have h2 := h.2
    exact (limited_yes B p (nd v.num.natAbs) (nd v.den) A D c d w (by rw [nd_length]; exact h1) (by rw [nd_length]; exact h2) hc hd oA oD hap).mono fun e w' k => k.to hp.symm rfl rfl
  · rw [cutQ_out h]
    by_cases h1 : 24 < (nd v.num.natAbs).length
    · exact limited_n B p _ _ A D c d w h1
    · refine limited_k B p _ _ A D c d w (by omega) ?_
      rw [nd_length] at h1 ⊢
      unfold Fit at h
      omega
end Go.Proofs.Ytjcbaiphkchehaa

namespace Go.Proofs.Ytjcbaiphkchehaa
open Go.ChangeShapes Go.WideShapes Go.ChangeAt Go.RowKit
open Go.ChangeMaps (open_string shut_string)
set_option linter.unusedVariables false
set_option linter.unusedSimpArgs false
set_option maxRecDepth 4000

attribute [local go_sem ↓] Go.wp_at_zero Go.wp_at_succ

theorem zn_mul_pos (x : Int) (f : Nat) (hf : 0 < f) : zn (x * (f : Int)) = zn x := by
  unfold zn
  have hfi : (0 : Int) < (f : Int) := by omega
  by_cases h : x < 0
  · rw [decide_eq_true h, decide_eq_true (Int.mul_neg_of_neg_of_pos h hfi)]
  · have := Int.mul_nonneg (show 0 ≤ x by omega) (Int.le_of_lt hfi)
    rw [decide_eq_false h, decide_eq_false (by omega)]
theorem zm_mul (x : Int) (f : Nat) : zm (x * (f : Int)) = nd (x.natAbs * f) := by unfold zm; rw [Int.natAbs_mul, Int.natAbs_natCast]
end Go.Proofs.Ytjcbaiphkchehaa

namespace Go.Proofs.Ytjcbaiphkchehaa
open Go.ChangeShapes Go.WideShapes Go.ChangeAt Go.RowKit
open Go.ChangeMaps (open_string shut_string)
set_option linter.unusedVariables false
set_option linter.unusedSimpArgs false
set_option maxRecDepth 4000

attribute [local go_sem ↓] Go.wp_at_zero Go.wp_at_succ

/-- 'inverse' of a fraction. -/
def invQ (r : Rat) : Option Rat := if r.num = 0 then none else some r⁻¹
end Go.Proofs.Ytjcbaiphkchehaa

namespace Go.Proofs.Ytjcbaiphkchehaa
open Go.ChangeShapes Go.WideShapes Go.ChangeAt Go.RowKit
open Go.ChangeMaps (open_string shut_string)
set_option linter.unusedVariables false
set_option linter.unusedSimpArgs false
set_option maxRecDepth 4000

attribute [local go_sem ↓] Go.wp_at_zero Go.wp_at_succ

theorem ln_div (a g : Nat) : ln (a / g) ≤ ln a := ln_mono (Nat.div_le_self _ _)
theorem ln_gcd {a b : Nat} (hb : 0 < b) : ln (Nat.gcd a b) ≤ ln b := ln_mono (Nat.le_of_dvd hb (Nat.gcd_dvd_right a b))
theorem hp_mul (r s : Rat) (g h : Nat) (e1 : (r * s).num.natAbs = (r.num.natAbs / g) * (s.num.natAbs / h)) (e3 : zn (r * s).num = zn (r.num * s.num)) : ((!(zn r.num == zn s.num)) && decide (nd (r * s).num.natAbs ≠ [])) = zn (r * s).num := by
  by_cases h0 : (r * s).num = 0
  · rw [h0, show (0 : Int).natAbs = 0 from rfl, nd_zero, zn_zero]; simp
  · have hv : (r * s).num.natAbs ≠ 0 := by omega
    rw [decide_eq_true (nd_pos hv), Bool.and_true, e3]
    have hr0 : r.num.natAbs ≠ 0 := by rintro e; rw [e, Nat.zero_div, Nat.zero_mul] at e1; exact hv e1
    have hs0 : s.num.natAbs ≠ 0 := by rintro e; rw [e, Nat.zero_div, Nat.mul_zero] at e1; exact hv e1
    have := sgn_zn (!(zn r.num == zn s.num)) (r.num.natAbs * s.num.natAbs)
    rw [show sgn (!(zn r.num == zn s.num)) (r.num.natAbs * s.num.natAbs) = r.num * s.num from times_z r.num s.num, decide_eq_true (Nat.mul_ne_zero hr0 hs0), Bool.and_true] at this
    exact this.symm
end Go.Proofs.Ytjcbaiphkchehaa

namespace Go.Proofs.Ytjcbaiphkchehaa
open Go.ChangeShapes Go.WideShapes Go.ChangeAt Go.RowKit
open Go.ChangeMaps (open_string shut_string)
set_option linter.unusedVariables false
set_option linter.unusedSimpArgs false
set_option maxRecDepth 4000

attribute [local go_sem ↓] Go.wp_at_zero Go.wp_at_succ

theorem OwnS.putR {B lo hi b o : Nat} {w : World} {A : Option Addr} {l : List Int} (h : OwnS B w A (vi l)) (hr : InR l.length A lo hi) (hb : b < lo ∨ hi ≤ b) (v : Value) : OwnS B (w.setCell ⟨b, o, none⟩ v) A (vi l) := by
  rcases h with h | ⟨g, ha, hB, hs, hc, hf⟩
  · exact .inl h
  · by_cases h0 : l.length = 0
    · exact .inl (by rw [List.eq_nil_of_length_eq_zero h0]; rfl)
    · have hg := hr g (by rw [rowOf, if_neg h0, ha]; rfl)
      refine .inr ⟨g, ha, hB, by simpa [World.setCell] using hs, fun j hj => ?_, fun j hj => ?_⟩
      · rw [World.cell?_setCell_other w ⟨b, o, none⟩ ⟨g, j, none⟩ v (by intro q; injection q with q1 _; omega)]
        exact hc j hj
      · rw [World.frozen?_setCell]; exact hf j hj
theorem hp_add (p : Bool) (N : Int) (e : Nat) (h : sgn p N.natAbs = N) (he : 0 < e) (hd : e ∣ N.natAbs) : (p && decide (nd (N.natAbs / e) ≠ [])) = zn N := by
  have h1 := sgn_zn p N.natAbs
  rw [h] at h1
  rw [h1]
  congr 1
  by_cases h0 : N.natAbs = 0
  · rw [h0, Nat.zero_div, nd_zero]; simp
  · have := Nat.div_pos (Nat.le_of_dvd (by omega) hd) he
    rw [decide_eq_true h0, decide_eq_true (nd_pos (by omega))]
theorem plus_n (x y : Int) : plusN (zn x) x.natAbs (zn y) y.natAbs = (x + y).natAbs ∧ sgn (plusB (zn x) x.natAbs (zn y) y.natAbs) (x + y).natAbs = x + y := by
  have h : sgn (plusB (zn x) x.natAbs (zn y) y.natAbs) (plusN (zn x) x.natAbs (zn y) y.natAbs) = x + y := plus_z x y
  have h2 : plusN (zn x) x.natAbs (zn y) y.natAbs = (x + y).natAbs := by rw [← h, sgn_abs]
  rw [h2] at h
  exact ⟨h2, h⟩
end Go.Proofs.Ytjcbaiphkchehaa

namespace Go.Proofs.Ytjcbaiphkchehaa
open Go.ChangeShapes Go.WideShapes Go.ChangeAt Go.RowKit
open Go.ChangeMaps (open_string shut_string)
set_option linter.unusedVariables false
set_option linter.unusedSimpArgs false
set_option maxRecDepth 4000

attribute [local go_sem ↓] Go.wp_at_zero Go.wp_at_succ

/-- 'times' where the second may be none. -/
def mulO (r : Rat) (o : Option Rat) : Option Rat := match o with
  | none => none
  | some s => mulQ r s
theorem invQ_fit {s : Rat} (h : Fit s) : ∀ t, invQ s = some t → Fit t := by
  intro t ht
  unfold invQ at ht
  split at ht
  · cases ht
  · injection ht with ht; rw [← ht]; exact inv_fit h (by assumption)
theorem mulO_inv (r s : Rat) : mulO r (invQ s) = quoQ r s := by
  unfold invQ quoQ
  split
  · rfl
  · show cutQ (r * s⁻¹) = cutQ (r / s)
    rw [Rat.div_def]
end Go.Proofs.Ytjcbaiphkchehaa

namespace Go.Proofs.Ytjcbaiphkchehaa
open Go.ChangeShapes Go.WideShapes Go.ChangeAt Go.RowKit
open Go.ChangeMaps (open_string shut_string)
set_option linter.unusedVariables false
set_option linter.unusedSimpArgs false
set_option maxRecDepth 4000

attribute [local go_sem ↓] Go.wp_at_zero Go.wp_at_succ

end Go.Proofs.Ytjcbaiphkchehaa

namespace Go.Proofs.Ytjcbaiphkchehaa
open Go.ChangeShapes Go.WideShapes Go.ChangeAt Go.RowKit
open Go.ChangeMaps (open_string shut_string)
set_option linter.unusedVariables false
set_option linter.unusedSimpArgs false
set_option maxRecDepth 4000

attribute [local go_sem ↓] Go.wp_at_zero Go.wp_at_succ

end Go.Proofs.Ytjcbaiphkchehaa

