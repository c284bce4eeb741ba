/-
  Big integers: 'BigIntCmp' of the model, 'BigIntToInt' and 'BigIntOf' of both.
-/
import Derived.Test.YtnejpdlikdgnnaaBigT
namespace Go.Proofs.Ytnejpdlikdgnnaa
open Go.ChangeShapes Go.WideShapes Go.ChangeAt Go.RowKit
open Go.ChangeMaps (open_string shut_string)
set_option linter.unusedVariables false
set_option linter.unusedSimpArgs false
set_option maxRecDepth 4000

set_option maxHeartbeats 1000000 in
theorem lcmp_any (x y : Int) (A D : Option Addr) (n c n' d : Nat) (w : World) (hn : ln x.natAbs = n) (hn' : ln y.natAbs = n') (h60 : n ≤ 60) (h60' : n' ≤ 60) (hA : RdS w A (vi (zm x))) (hD : RdS w D (vi (zm y))) :
    Calls Try.prog 58 #[.agg #[.bool (zn x), .slice A n c], .agg #[.bool (zn y), .slice D n' d]] w fun e w' => e = .returned (.int .i64 (cmpZ x y)) ∧ Below w.heap.size w w' := by
  have H1 := Lib.hid (fun W h h' => spec_cmp x.natAbs y.natAbs A D n c n' d W hn hn' (by omega) (by omega) h h')
  have H2 := Lib.hid (fun W h h' => spec_cmp y.natAbs x.natAbs D A n' d n c W hn' hn (by omega) (by omega) h h')
  have HR : Hid (∀ W, Below w.heap.size w W → RdS W A (vi (nd x.natAbs)) ∧ RdS W D (vi (nd y.natAbs))) := Lib.hid (fun W hb => ⟨hA.below hb, hD.below hb⟩)
  clear hn hn' hA hD
  by_cases hx : x < 0
  · have ex : zn x = true := decide_eq_true hx
    by_cases hy : y < 0
    · have ey : zn y = true := decide_eq_true hy
      rw [cmpZ_neg hx hy] at H2
      rw [ex, ey]
      clear ex ey hx hy H1
      generalize cmpZ x y = r at H2 ⊢
      go_enter Try.func58, Try.ntmps58
      go_wp2_with fail
      refine (H2.out _ (HR.out _ (ba2 _ _ _)).2 (HR.out _ (ba2 _ _ _)).1).mono ?_
      rintro e w1 ⟨rfl, hb⟩
      have kb := (ba2 _ _ _).trans (hb.mono (by rw [sz2]; omega))
      go_wp2
      go_ret
      exact ⟨rfl, kb⟩
    · have ey : zn y = false := decide_eq_false hy
      have er : Hid (cmpZ x y = -1) := Lib.hid (if_pos (by omega))
      rw [ex, ey]
      clear ex ey hx hy H1 H2
      go_enter Try.func58, Try.ntmps58
      go_wp2
      go_ret
      exact ⟨ret_int' er.out.symm, ba2 _ _ _⟩
  · have ex : zn x = false := decide_eq_false hx
    by_cases hy : y < 0
    · have ey : zn y = true := decide_eq_true hy
      have er : Hid (cmpZ x y = 1) := Lib.hid (by unfold cmpZ; rw [if_neg (by omega), if_pos (by omega)])
      rw [ex, ey]
      clear ex ey hx hy H1 H2
      go_enter Try.func58, Try.ntmps58
      go_wp2
      go_ret
      exact ⟨ret_int' er.out.symm, ba2 _ _ _⟩
    · have ey : zn y = false := decide_eq_false hy
      rw [cmpZ_pos hx hy] at H1
      rw [ex, ey]
      clear ex ey hx hy H2
      generalize cmpZ x y = r at H1 ⊢
      go_enter Try.func58, Try.ntmps58
      go_wp2_with fail
      refine (H1.out _ (HR.out _ (ba2 _ _ _)).1 (HR.out _ (ba2 _ _ _)).2).mono ?_
      rintro e w1 ⟨rfl, hb⟩
      have kb := (ba2 _ _ _).trans (hb.mono (by rw [sz2]; omega))
      go_wp2
      go_ret
      exact ⟨rfl, kb⟩

set_option maxHeartbeats 1000000 in
theorem spec_bcmp (p q : Bool) (l m : List Int) (A D : Option Addr) (n c n' d : Nat) (w : World) (hl : l.length = n) (hm : m.length = n') (hn : n ≤ 9223372036854775807) (hn' : n' ≤ 9223372036854775807) (hA : RdS w A (vi l)) (hD : RdS w D (vi m)) :
    Calls Try.prog 31 #[.agg #[.bool p, .slice A n c], .agg #[.bool q, .slice D n' d]] w fun e w' => e = .returned (.int .i64 (cmpB p l q m)) ∧ Below w.heap.size w w' := by
  have H1 := Lib.hid (fun W h => spec_bok p l A n c W hl hn h)
  have H2 := Lib.hid (fun W h => spec_bok q m D n' d W hm hn' h)
  have HR : Hid (∀ W, Below w.heap.size w W → RdS W A (vi l) ∧ RdS W D (vi m)) := Lib.hid (fun W hb => ⟨hA.below hb, hD.below hb⟩)
  by_cases hk : (okB p l && okB q m) = true
  · obtain ⟨h1, h2⟩ := okB_two hk
    rw [h1] at H1
    rw [h2] at H2
    obtain ⟨x, rfl, rfl, hx⟩ := okB_z h1
    obtain ⟨y, rfl, rfl, hy⟩ := okB_z h2
    have hR : cmpB (zn x) (zm x) (zn y) (zm y) = cmpZ x y := binZ_yes hx hy
    rw [hR]
    rw [zm_length] at hl hm
    have HS := Lib.hid (fun W h h' => lcmp_any x y A D n c n' d W hl hm (by omega) (by omega) h h')
    clear hl hm hA hD hk h1 h2 hx hy hR
    generalize cmpZ x y = r at HS ⊢
    generalize zn x = p at H1 HS ⊢
    generalize zn y = q at H2 HS ⊢
    go_enter Try.func31, Try.ntmps31
    go_wp2_with fail
    generalize hW : (w.alloc (.cells #[.bool p, .slice A n c] 27)).alloc (.cells #[.bool q, .slice D n' d] 27) = W3
    obtain ⟨k0, k1, k2, k3, kb⟩ := boxesP _ _ _ _ _ _ _ _ hW
    clear hW
    refine (H1.out _ (HR.out _ kb).1).mono ?_
    rintro e w4 ⟨rfl, hb4⟩
    replace k0 := cell_kept k0 hb4
    replace k1 := cell_kept k1 hb4
    replace k2 := cell_kept k2 hb4
    replace k3 := cell_kept k3 hb4
    replace kb := bt kb hb4
    clear hb4
    go_wp2_with fail
    refine (H2.out _ (HR.out _ kb).2).mono ?_
    rintro e w4 ⟨rfl, hb4⟩
    replace k0 := cell_kept k0 hb4
    replace k1 := cell_kept k1 hb4
    replace k2 := cell_kept k2 hb4
    replace k3 := cell_kept k3 hb4
    replace kb := bt kb hb4
    clear hb4
    go_wp2_with fail
    refine (HS.out _ (HR.out _ kb).1 (HR.out _ kb).2).mono ?_
    rintro e w5 ⟨rfl, hb5⟩
    replace kb := bt kb hb5
    go_wp2
    go_ret
    exact ⟨rfl, kb⟩
  · have hk' : (okB p l && okB q m) = false := by simpa using hk
    have hR : cmpB p l q m = 0 := binZ_no hk'
    rw [hR]
    clear hl hm hA hD hk hR
    cases h1 : okB p l
    · rw [h1] at H1
      clear hk' h1 H2
      go_enter Try.func31, Try.ntmps31
      go_wp2_with fail
      refine (H1.out _ (HR.out _ (ba2 _ _ _)).1).mono ?_
      rintro e w4 ⟨rfl, hb4⟩
      have kb := (ba2 _ _ _).trans (hb4.mono (by rw [sz2]; omega))
      go_wp2
      go_ret
      exact ⟨rfl, kb⟩
    · rw [h1, Bool.true_and] at hk'
      rw [h1] at H1
      rw [hk'] at H2
      clear hk' h1
      go_enter Try.func31, Try.ntmps31
      go_wp2_with fail
      generalize hW : (w.alloc (.cells #[.bool p, .slice A n c] 27)).alloc (.cells #[.bool q, .slice D n' d] 27) = W3
      obtain ⟨k0, k1, k2, k3, kb⟩ := boxesP _ _ _ _ _ _ _ _ hW
      clear hW
      refine (H1.out _ (HR.out _ kb).1).mono ?_
      rintro e w4 ⟨rfl, hb4⟩
      replace k0 := cell_kept k0 hb4
      replace k1 := cell_kept k1 hb4
      replace k2 := cell_kept k2 hb4
      replace k3 := cell_kept k3 hb4
      replace kb := bt kb hb4
      clear hb4
      go_wp2_with fail
      refine (H2.out _ (HR.out _ kb).2).mono ?_
      rintro e w5 ⟨rfl, hb5⟩
      replace kb := bt kb hb5
      go_wp2
      go_ret
      exact ⟨rfl, kb⟩

/-- The answer of 'BigIntToInt'. -/
def tiV (p : Bool) (l : List Int) : Int := if okB p l then (if p then -(toV l) else toV l) else 0
def tiB (p : Bool) (l : List Int) : Bool := okB p l && toB l
theorem toV_range (l : List Int) : 0 ≤ toV l ∧ toV l ≤ 9223372036854775807 := by
  unfold toV
  by_cases h : (ok l && decide (val l ≤ 9223372036854775807)) = true
  · rw [if_pos h]
    rw [Bool.and_eq_true, decide_eq_true_eq] at h
    omega
  · rw [if_neg h]; omega
theorem toV_zero {l : List Int} (h : toB l = false) : toV l = 0 := by
  unfold toV
  unfold toB at h
  rw [h]
  rfl

set_option maxHeartbeats 1000000 in
theorem impl_bti_false (l : List Int) (A : Option Addr) (n c : Nat) (w : World) (hl : l.length = n) (hn : n ≤ 9223372036854775807) (hA : RdS w A (vi l)) :
    Calls Try.prog 22 #[.agg #[.bool false, .slice A n c]] w fun e w' => e = .returned (.tuple #[.int .i64 (tiV false l), .bool (tiB false l)]) ∧ Below w.heap.size w w' := by
  have H1 := Lib.hid (fun W h => impl_bok false l A n c W hl hn h)
  have H2 := Lib.hid (fun W h => impl_toInt l A n c W hl hn h)
  have HR : Hid (∀ W, Below w.heap.size w W → RdS W A (vi l)) := Lib.hid (fun W hb => hA.below hb)
  have hr := toV_range l
  cases hk : okB false l
  · have e1 : Hid (tiV false l = 0 ∧ tiB false l = false) := Lib.hid ⟨by unfold tiV; rw [hk]; rfl, by unfold tiB; rw [hk]; rfl⟩
    rw [hk] at H1
    clear hk hl hA H2
    go_enter Try.func22, Try.ntmps22
    go_wp2_with fail
    refine (H1.out _ (HR.out _ (ba1 _ _))).mono ?_
    rintro e w4 ⟨rfl, hb4⟩
    have kb := (ba1 _ _).trans (hb4.mono (by rw [sz1]; omega))
    go_wp2
    go_ret2
    exact ⟨ret_two e1.out.1.symm e1.out.2.symm, kb⟩
  · have e1 : Hid (tiV false l = toV l ∧ tiB false l = toB l) := Lib.hid ⟨by unfold tiV; rw [hk]; rfl, by unfold tiB; rw [hk]; rfl⟩
    rw [hk] at H1
    clear hk hl hA
    generalize toV l = z at H2 hr e1
    generalize toB l = b at H2 e1
    obtain ⟨hr0, hr1⟩ := hr
    go_enter Try.func22, Try.ntmps22
    go_wp2_with fail
    have k0 := box0 w 27 (.bool false) (.slice A n c)
    have k1 := box1 w 27 (.bool false) (.slice A n c)
    have kb := ba1 w (.cells #[.bool false, .slice A n c] 27)
    generalize w.alloc (.cells #[.bool false, .slice A n c] 27) = W1 at k0 k1 kb ⊢
    refine (H1.out _ (HR.out _ kb)).mono ?_
    rintro e w4 ⟨rfl, hb4⟩
    replace k0 := cell_kept k0 hb4
    replace k1 := cell_kept k1 hb4
    replace kb := bt kb hb4
    clear hb4
    go_wp2_with fail
    refine (H2.out _ (HR.out _ kb)).mono ?_
    rintro e w5 ⟨rfl, rfl⟩
    go_wp2
    go_ret2
    exact ⟨ret_two e1.out.1.symm e1.out.2.symm, kb⟩

set_option maxHeartbeats 1000000 in
theorem spec_bti_false (l : List Int) (A : Option Addr) (n c : Nat) (w : World) (hl : l.length = n) (hn : n ≤ 9223372036854775807) (hA : RdS w A (vi l)) :
    Calls Try.prog 21 #[.agg #[.bool false, .slice A n c]] w fun e w' => e = .returned (.tuple #[.int .i64 (tiV false l), .bool (tiB false l)]) ∧ Below w.heap.size w w' := by
  have H1 := Lib.hid (fun W h => spec_bok false l A n c W hl hn h)
  have H2 := Lib.hid (fun W h => spec_toInt l A n c W hl hn h)
  have HR : Hid (∀ W, Below w.heap.size w W → RdS W A (vi l)) := Lib.hid (fun W hb => hA.below hb)
  have hr := toV_range l
  cases hb0 : toB l
  · have e1 : Hid (tiV false l = 0 ∧ tiB false l = false) := Lib.hid ⟨by unfold tiV; rw [toV_zero hb0]; split <;> rfl, by unfold tiB; rw [hb0, Bool.and_false]⟩
    rw [hb0] at H2
    clear hb0 hl hA H1
    generalize toV l = z at H2 hr
    clear hr
    go_enter Try.func21, Try.ntmps21
    go_wp2_with fail
    refine (H2.out _ (HR.out _ (ba1 _ _))).mono ?_
    rintro e w4 ⟨rfl, hb4⟩
    have kb := (ba1 _ _).trans (hb4.mono (by rw [sz1]; omega))
    go_wp2
    go_ret2
    exact ⟨ret_two e1.out.1.symm e1.out.2.symm, kb⟩
  · cases hk : okB false l
    · have e1 : Hid (tiV false l = 0 ∧ tiB false l = false) := Lib.hid ⟨by unfold tiV; rw [hk]; rfl, by unfold tiB; rw [hk]; rfl⟩
      rw [hk] at H1
      rw [hb0] at H2
      clear hk hb0 hl hA
      generalize toV l = z at H2 hr
      clear hr
      go_enter Try.func21, Try.ntmps21
      go_wp2_with fail
      have k0 := box0 w 27 (.bool false) (.slice A n c)
      have k1 := box1 w 27 (.bool false) (.slice A n c)
      have kb := ba1 w (.cells #[.bool false, .slice A n c] 27)
      generalize w.alloc (.cells #[.bool false, .slice A n c] 27) = W1 at k0 k1 kb ⊢
      refine (H2.out _ (HR.out _ kb)).mono ?_
      rintro e w4 ⟨rfl, hb4⟩
      replace k0 := cell_kept k0 hb4
      replace k1 := cell_kept k1 hb4
      replace kb := bt kb hb4
      clear hb4
      go_wp2_with fail
      refine (H1.out _ (HR.out _ kb)).mono ?_
      rintro e w5 ⟨rfl, hb5⟩
      replace kb := bt kb hb5
      go_wp2
      go_ret2
      exact ⟨ret_two e1.out.1.symm e1.out.2.symm, kb⟩
    · have e1 : Hid (tiV false l = toV l ∧ tiB false l = true) := Lib.hid ⟨by unfold tiV; rw [hk]; rfl, by unfold tiB; rw [hk, hb0]; rfl⟩
      rw [hk] at H1
      rw [hb0] at H2
      clear hk hb0 hl hA
      generalize toV l = z at H2 hr e1
      obtain ⟨hr0, hr1⟩ := hr
      go_enter Try.func21, Try.ntmps21
      go_wp2_with fail
      have k0 := box0 w 27 (.bool false) (.slice A n c)
      have k1 := box1 w 27 (.bool false) (.slice A n c)
      have kb := ba1 w (.cells #[.bool false, .slice A n c] 27)
      generalize w.alloc (.cells #[.bool false, .slice A n c] 27) = W1 at k0 k1 kb ⊢
      refine (H2.out _ (HR.out _ kb)).mono ?_
      rintro e w4 ⟨rfl, hb4⟩
      replace k0 := cell_kept k0 hb4
      replace k1 := cell_kept k1 hb4
      replace kb := bt kb hb4
      clear hb4
      go_wp2_with fail
      refine (H1.out _ (HR.out _ kb)).mono ?_
      rintro e w5 ⟨rfl, hb5⟩
      replace k0 := cell_kept k0 hb5
      replace kb := bt kb hb5
      clear hb5
      go_wp2
      go_ret2
      exact ⟨ret_two e1.out.1.symm e1.out.2.symm, kb⟩

set_option maxHeartbeats 1000000 in
theorem impl_bti_true (l : List Int) (A : Option Addr) (n c : Nat) (w : World) (hl : l.length = n) (hn : n ≤ 9223372036854775807) (hA : RdS w A (vi l)) :
    Calls Try.prog 22 #[.agg #[.bool true, .slice A n c]] w fun e w' => e = .returned (.tuple #[.int .i64 (tiV true l), .bool (tiB true l)]) ∧ Below w.heap.size w w' := by
  have H1 := Lib.hid (fun W h => impl_bok true l A n c W hl hn h)
  have H2 := Lib.hid (fun W h => impl_toInt l A n c W hl hn h)
  have HR : Hid (∀ W, Below w.heap.size w W → RdS W A (vi l)) := Lib.hid (fun W hb => hA.below hb)
  have hr := toV_range l
  cases hk : okB true l
  · have e1 : Hid (tiV true l = 0 ∧ tiB true l = false) := Lib.hid ⟨by unfold tiV; rw [hk]; rfl, by unfold tiB; rw [hk]; rfl⟩
    rw [hk] at H1
    clear hk hl hA H2
    go_enter Try.func22, Try.ntmps22
    go_wp2_with fail
    refine (H1.out _ (HR.out _ (ba1 _ _))).mono ?_
    rintro e w4 ⟨rfl, hb4⟩
    have kb := (ba1 _ _).trans (hb4.mono (by rw [sz1]; omega))
    go_wp2
    go_ret2
    exact ⟨ret_two e1.out.1.symm e1.out.2.symm, kb⟩
  · have e1 : Hid (tiV true l = -(toV l) ∧ tiB true l = toB l) := Lib.hid ⟨by unfold tiV; rw [hk]; rfl, by unfold tiB; rw [hk]; rfl⟩
    rw [hk] at H1
    clear hk hl hA
    generalize toV l = z at H2 hr e1
    generalize toB l = b at H2 e1
    obtain ⟨hr0, hr1⟩ := hr
    go_enter Try.func22, Try.ntmps22
    go_wp2_with fail
    have k0 := box0 w 27 (.bool true) (.slice A n c)
    have k1 := box1 w 27 (.bool true) (.slice A n c)
    have kb := ba1 w (.cells #[.bool true, .slice A n c] 27)
    generalize w.alloc (.cells #[.bool true, .slice A n c] 27) = W1 at k0 k1 kb ⊢
    refine (H1.out _ (HR.out _ kb)).mono ?_
    rintro e w4 ⟨rfl, hb4⟩
    replace k0 := cell_kept k0 hb4
    replace k1 := cell_kept k1 hb4
    replace kb := bt kb hb4
    clear hb4
    go_wp2_with fail
    refine (H2.out _ (HR.out _ kb)).mono ?_
    rintro e w5 ⟨rfl, rfl⟩
    go_wp2
    go_ret2
    exact ⟨ret_two e1.out.1.symm e1.out.2.symm, kb⟩

set_option maxHeartbeats 1000000 in
theorem spec_bti_true (l : List Int) (A : Option Addr) (n c : Nat) (w : World) (hl : l.length = n) (hn : n ≤ 9223372036854775807) (hA : RdS w A (vi l)) :
    Calls Try.prog 21 #[.agg #[.bool true, .slice A n c]] w fun e w' => e = .returned (.tuple #[.int .i64 (tiV true l), .bool (tiB true l)]) ∧ Below w.heap.size w w' := by
  have H1 := Lib.hid (fun W h => spec_bok true l A n c W hl hn h)
  have H2 := Lib.hid (fun W h => spec_toInt l A n c W hl hn h)
  have HR : Hid (∀ W, Below w.heap.size w W → RdS W A (vi l)) := Lib.hid (fun W hb => hA.below hb)
  have hr := toV_range l
  cases hb0 : toB l
  · have e1 : Hid (tiV true l = 0 ∧ tiB true l = false) := Lib.hid ⟨by unfold tiV; rw [toV_zero hb0]; split <;> rfl, by unfold tiB; rw [hb0, Bool.and_false]⟩
    rw [hb0] at H2
    clear hb0 hl hA H1
    generalize toV l = z at H2 hr
    clear hr
    go_enter Try.func21, Try.ntmps21
    go_wp2_with fail
    refine (H2.out _ (HR.out _ (ba1 _ _))).mono ?_
    rintro e w4 ⟨rfl, hb4⟩
    have kb := (ba1 _ _).trans (hb4.mono (by rw [sz1]; omega))
    go_wp2
    go_ret2
    exact ⟨ret_two e1.out.1.symm e1.out.2.symm, kb⟩
  · cases hk : okB true l
    · have e1 : Hid (tiV true l = 0 ∧ tiB true l = false) := Lib.hid ⟨by unfold tiV; rw [hk]; rfl, by unfold tiB; rw [hk]; rfl⟩
      rw [hk] at H1
      rw [hb0] at H2
      clear hk hb0 hl hA
      generalize toV l = z at H2 hr
      clear hr
      go_enter Try.func21, Try.ntmps21
      go_wp2_with fail
      have k0 := box0 w 27 (.bool true) (.slice A n c)
      have k1 := box1 w 27 (.bool true) (.slice A n c)
      have kb := ba1 w (.cells #[.bool true, .slice A n c] 27)
      generalize w.alloc (.cells #[.bool true, .slice A n c] 27) = W1 at k0 k1 kb ⊢
      refine (H2.out _ (HR.out _ kb)).mono ?_
      rintro e w4 ⟨rfl, hb4⟩
      replace k0 := cell_kept k0 hb4
      replace k1 := cell_kept k1 hb4
      replace kb := bt kb hb4
      clear hb4
      go_wp2_with fail
      refine (H1.out _ (HR.out _ kb)).mono ?_
      rintro e w5 ⟨rfl, hb5⟩
      replace kb := bt kb hb5
      go_wp2
      go_ret2
      exact ⟨ret_two e1.out.1.symm e1.out.2.symm, kb⟩
    · have e1 : Hid (tiV true l = -(toV l) ∧ tiB true l = true) := Lib.hid ⟨by unfold tiV; rw [hk]; rfl, by unfold tiB; rw [hk, hb0]; rfl⟩
      rw [hk] at H1
      rw [hb0] at H2
      clear hk hb0 hl hA
      generalize toV l = z at H2 hr e1
      obtain ⟨hr0, hr1⟩ := hr
      go_enter Try.func21, Try.ntmps21
      go_wp2_with fail
      have k0 := box0 w 27 (.bool true) (.slice A n c)
      have k1 := box1 w 27 (.bool true) (.slice A n c)
      have kb := ba1 w (.cells #[.bool true, .slice A n c] 27)
      generalize w.alloc (.cells #[.bool true, .slice A n c] 27) = W1 at k0 k1 kb ⊢
      refine (H2.out _ (HR.out _ kb)).mono ?_
      rintro e w4 ⟨rfl, hb4⟩
      replace k0 := cell_kept k0 hb4
      replace k1 := cell_kept k1 hb4
      replace kb := bt kb hb4
      clear hb4
      go_wp2_with fail
      refine (H1.out _ (HR.out _ kb)).mono ?_
      rintro e w5 ⟨rfl, hb5⟩
      replace k0 := cell_kept k0 hb5
      replace kb := bt kb hb5
      clear hb5
      go_wp2
      go_ret2
      exact ⟨ret_two e1.out.1.symm e1.out.2.symm, kb⟩

theorem impl_bti (p : Bool) (l : List Int) (A : Option Addr) (n c : Nat) (w : World) (hl : l.length = n) (hn : n ≤ 9223372036854775807) (hA : RdS w A (vi l)) :
    Calls Try.prog 22 #[.agg #[.bool p, .slice A n c]] w fun e w' => e = .returned (.tuple #[.int .i64 (tiV p l), .bool (tiB p l)]) ∧ Below w.heap.size w w' := by
  cases p
  · exact impl_bti_false l A n c w hl hn hA
  · exact impl_bti_true l A n c w hl hn hA
theorem spec_bti (p : Bool) (l : List Int) (A : Option Addr) (n c : Nat) (w : World) (hl : l.length = n) (hn : n ≤ 9223372036854775807) (hA : RdS w A (vi l)) :
    Calls Try.prog 21 #[.agg #[.bool p, .slice A n c]] w fun e w' => e = .returned (.tuple #[.int .i64 (tiV p l), .bool (tiB p l)]) ∧ Below w.heap.size w w' := by
  cases p
  · exact spec_bti_false l A n c w hl hn hA
  · exact spec_bti_true l A n c w hl hn hA
end Go.Proofs.Ytnejpdlikdgnnaa
