/-
  Big integers of the model: 'l03Add', 'BigIntAdd', 'BigIntSub', 'BigIntMul', 'BigIntNeg', 'BigIntCmp'.
-/
import Derived.Test.YtnejpdlikdgnnaaBigS
import Derived.Test.YtnejpdlikdgnnaaBigR
namespace Go.Proofs.Ytnejpdlikdgnnaa
open Go.ChangeShapes Go.WideShapes Go.ChangeAt Go.RowKit
open Go.ChangeMaps (open_string shut_string)
set_option linter.unusedVariables false
set_option linter.unusedSimpArgs false
set_option maxRecDepth 4000

set_option maxHeartbeats 1000000 in
theorem ladd_same (p : Bool) (a b : Nat) (A D : Option Addr) (n c n' d : Nat) (w : World) (hn : ln a = n) (hn' : ln b = n') (h60 : n ≤ 60) (h60' : n' ≤ 60) (hA : RdS w A (vi (nd a))) (hD : RdS w D (vi (nd b))) :
    Calls Try.prog 52 #[.agg #[.bool p, .slice A n c], .agg #[.bool p, .slice D n' d]] w (MadeB w.heap.size (p && decide (cap60 (a + b) ≠ [])) (cap60 (a + b)) w) := by
  have HS := Lib.hid (fun W h h' => spec_l02Add a b A D n c n' d W hn hn' h60 h60' h h')
  have HB := Lib.hid (fun B K A c W (h1 : K ≤ c) (h2 : K ≤ 1048576) (h3 : ln (a + b) ≤ K) (h4 : OwnS B W A (vi (row K ((a + b : Nat) : Int)))) => make_row p B (a + b) K c A W h3 h2 h1 h4)
  have HR : Hid (∀ W, Below w.heap.size w W → RdS W A (vi (nd a)) ∧ RdS W D (vi (nd b))) := Lib.hid (fun W hb => ⟨hA.below hb, hD.below hb⟩)
  clear hn hn' hA hD
  generalize cap60 (a + b) = L at HB ⊢
  generalize (p && decide (L ≠ [])) = t at HB ⊢
  go_enter Try.func52, Try.ntmps52
  go_wp2_with fail
  generalize hW : ((w.alloc (.cells #[.bool p, .slice A n c] 27)).alloc (.cells #[.bool p, .slice D n' d] 27)).alloc (.cells #[.bool false, .slice none 0 0] 27) = W3
  obtain ⟨k0, k1, k2, k3, kt, kb⟩ := boxes3 _ _ _ _ _ _ _ _ _ _ _ hW
  clear hW
  obtain ⟨r, hr⟩ : ∃ r, r = w.heap.size + 1 + 1 := ⟨_, rfl⟩
  rw [← hr] at kt ⊢
  have hr1 : r ≠ w.heap.size := by omega
  have hr2 : r ≠ w.heap.size + 1 := by omega
  have hr3 : w.heap.size ≤ r := by omega
  clear hr
  go_region_held3 (fun w' => w'.cell? ⟨w.heap.size, 0, none⟩ = some (.bool p) ∧ w'.cell? ⟨w.heap.size, 1, none⟩ = some (.slice A n c) ∧ w'.cell? ⟨w.heap.size + 1, 0, none⟩ = some (.bool p) ∧ w'.cell? ⟨w.heap.size + 1, 1, none⟩ = some (.slice D n' d) ∧ Two w' r ∧ Below w.heap.size w w')
    (first | (exact ⟨k0, k1, k2, k3, kt, kb.drew⟩) | (go_split_ands; exact kept4 (by assumption) (by assumption) (by assumption) (by assumption) (by assumption) (by assumption) hbc) | (go_split_ands; exact put4 _ _ (by assumption) (by assumption) (by assumption) (by assumption) (by assumption) (by assumption) hr3 hr1 hr1 hr2 hr2))
    (first | (go_at_call 61; go_split_ands; refine (HS.out _ (HR.out _ (by assumption)).1 (HR.out _ (by assumption)).2).mono ?_; rintro e w5 ⟨A5, c5, K5, rfl, hc5, hcm5, hK5, hT5, hO5, hbc⟩) | (go_at_call 44; go_split_ands; refine (HB.out _ _ _ _ _ hc5 hK5 hT5 hO5).mono ?_; rintro e w6 ⟨A7, c7, rfl, hc7, hO7, hbc⟩; replace hO7 := hO7.more (Two.lt (by assumption)); obtain ⟨u0, u1, t1, t2, t3, t4⟩ := Two.below (by assumption) hbc))
  all_goals
    have hfin := (‹_ ∧ _ ∧ _ ∧ _ ∧ _ ∧ Below w.heap.size w _›).2.2.2.2.2
    go_wp2
    exact bodyPost_ret (v := .agg #[.bool t, .slice A7 L.length c7]) (by simp [results, Try.results52, go_sem, t1, t2]) rfl ⟨A7, c7, rfl, hc7, ((hO7.put (Nat.lt_succ_self _) _).put (Nat.lt_succ_self _) _).more (Nat.le_succ_of_le hr3), hfin⟩

set_option maxHeartbeats 1000000 in
theorem ladd_geq (p q : Bool) (a b : Nat) (A D : Option Addr) (n c n' d : Nat) (w : World) (hpq : (p == q) = false) (hab : b ≤ a) (hn : ln a = n) (hn' : ln b = n') (h60 : n ≤ 60) (h60' : n' ≤ 60) (hA : RdS w A (vi (nd a))) (hD : RdS w D (vi (nd b))) :
    Calls Try.prog 52 #[.agg #[.bool p, .slice A n c], .agg #[.bool q, .slice D n' d]] w (MadeB w.heap.size (p && decide (cap60 (a - b) ≠ [])) (cap60 (a - b)) w) := by
  have HC := Lib.hid (fun W h h' => spec_cmp a b A D n c n' d W hn hn' (by omega) (by omega) h h')
  have hv : 0 ≤ cmpN a b := by
    rcases Nat.lt_or_ge b a with h | h
    · rw [cmpN_gt h]; decide
    · rw [cmpN_eq (by omega)]; decide
  generalize cmpN a b = v at HC hv
  have HS := Lib.hid (fun W h h' => spec_l02Sub a b A D n c n' d W hn hn' hab (by omega) (by omega) h h')
  have HB := Lib.hid (fun A c W (h1 : (nd (a - b)).length ≤ c) (h2 : RdS W A (vi (nd (a - b)))) => make_rd p (a - b) (nd (a - b)).length c A W (by rw [nd_length]) (by rw [nd_length]; have := ln_mono (show a - b ≤ a by omega); omega) h1 h2)
  have HR : Hid (∀ W, Below w.heap.size w W → RdS W A (vi (nd a)) ∧ RdS W D (vi (nd b))) := Lib.hid (fun W hb => ⟨hA.below hb, hD.below hb⟩)
  clear hn hn' hA hD
  generalize cap60 (a - b) = L at HB ⊢
  generalize (p && decide (L ≠ [])) = t at HB ⊢
  go_enter Try.func52, Try.ntmps52
  go_wp2_with fail
  generalize hW : ((w.alloc (.cells #[.bool p, .slice A n c] 27)).alloc (.cells #[.bool q, .slice D n' d] 27)).alloc (.cells #[.bool false, .slice none 0 0] 27) = W3
  obtain ⟨k0, k1, k2, k3, kt, kb⟩ := boxes3 _ _ _ _ _ _ _ _ _ _ _ hW
  clear hW
  obtain ⟨r, hr⟩ : ∃ r, r = w.heap.size + 1 + 1 := ⟨_, rfl⟩
  rw [← hr] at kt ⊢
  have hr1 : r ≠ w.heap.size := by omega
  have hr2 : r ≠ w.heap.size + 1 := by omega
  have hr3 : w.heap.size ≤ r := by omega
  clear hr
  refine (HC.out _ (HR.out _ kb).1 (HR.out _ kb).2).mono ?_
  rintro e w4 ⟨rfl, hb4⟩
  replace k0 := cell_kept k0 hb4
  replace k1 := cell_kept k1 hb4
  replace k2 := cell_kept k2 hb4
  replace k3 := cell_kept k3 hb4
  replace kt := kt.below hb4
  replace kb := bt kb hb4
  clear hb4
  go_wp2_with fail
  go_region_held3 (fun w' => w'.cell? ⟨w.heap.size, 0, none⟩ = some (.bool p) ∧ w'.cell? ⟨w.heap.size, 1, none⟩ = some (.slice A n c) ∧ w'.cell? ⟨w.heap.size + 1, 0, none⟩ = some (.bool q) ∧ w'.cell? ⟨w.heap.size + 1, 1, none⟩ = some (.slice D n' d) ∧ Two w' r ∧ Below w.heap.size w w')
    (first | (exact ⟨k0, k1, k2, k3, kt, kb.drew⟩) | (go_split_ands; exact kept4 (by assumption) (by assumption) (by assumption) (by assumption) (by assumption) (by assumption) hbc) | (go_split_ands; exact put4 _ _ (by assumption) (by assumption) (by assumption) (by assumption) (by assumption) (by assumption) hr3 hr1 hr1 hr2 hr2))
    (first | (go_at_call 62; go_split_ands; refine (HS.out _ (HR.out _ (by assumption)).1 (HR.out _ (by assumption)).2).mono ?_; rintro e w5 ⟨A5, c5, rfl, hc5, hO5, hbc⟩) | (go_at_call 44; go_split_ands; refine (HB.out _ _ _ hc5 hO5.rd).mono ?_; rintro e w6 ⟨A7, c7, rfl, hc7, hO7, hbc⟩; replace hO7 := hO7.more (Two.lt (by assumption)); obtain ⟨u0, u1, t1, t2, t3, t4⟩ := Two.below (by assumption) hbc))
  all_goals
    have hfin := (‹_ ∧ _ ∧ _ ∧ _ ∧ _ ∧ Below w.heap.size w _›).2.2.2.2.2
    go_wp2
    exact bodyPost_ret (v := .agg #[.bool t, .slice A7 L.length c7]) (by simp [results, Try.results52, go_sem, t1, t2]) rfl ⟨A7, c7, rfl, hc7, ((hO7.put (Nat.lt_succ_self _) _).put (Nat.lt_succ_self _) _).more (Nat.le_succ_of_le hr3), hfin⟩

set_option maxHeartbeats 1000000 in
theorem ladd_less (p q : Bool) (a b : Nat) (A D : Option Addr) (n c n' d : Nat) (w : World) (hpq : (p == q) = false) (hab : a < b) (hn : ln a = n) (hn' : ln b = n') (h60 : n ≤ 60) (h60' : n' ≤ 60) (hA : RdS w A (vi (nd a))) (hD : RdS w D (vi (nd b))) :
    Calls Try.prog 52 #[.agg #[.bool p, .slice A n c], .agg #[.bool q, .slice D n' d]] w (MadeB w.heap.size (q && decide (cap60 (b - a) ≠ [])) (cap60 (b - a)) w) := by
  have HC := Lib.hid (fun W h h' => spec_cmp a b A D n c n' d W hn hn' (by omega) (by omega) h h')
  have hv : ¬ 0 ≤ cmpN a b := by rw [cmpN_lt hab]; decide
  generalize cmpN a b = v at HC hv
  have HS := Lib.hid (fun W h h' => spec_l02Sub b a D A n' d n c W hn' hn (by omega) (by omega) (by omega) h' h)
  have HB := Lib.hid (fun A c W (h1 : (nd (b - a)).length ≤ c) (h2 : RdS W A (vi (nd (b - a)))) => make_rd q (b - a) (nd (b - a)).length c A W (by rw [nd_length]) (by rw [nd_length]; have := ln_mono (show b - a ≤ b by omega); omega) h1 h2)
  have HR : Hid (∀ W, Below w.heap.size w W → RdS W A (vi (nd a)) ∧ RdS W D (vi (nd b))) := Lib.hid (fun W hb => ⟨hA.below hb, hD.below hb⟩)
  clear hn hn' hA hD
  generalize cap60 (b - a) = L at HB ⊢
  generalize (q && decide (L ≠ [])) = t at HB ⊢
  go_enter Try.func52, Try.ntmps52
  go_wp2_with fail
  generalize hW : ((w.alloc (.cells #[.bool p, .slice A n c] 27)).alloc (.cells #[.bool q, .slice D n' d] 27)).alloc (.cells #[.bool false, .slice none 0 0] 27) = W3
  obtain ⟨k0, k1, k2, k3, kt, kb⟩ := boxes3 _ _ _ _ _ _ _ _ _ _ _ hW
  clear hW
  obtain ⟨r, hr⟩ : ∃ r, r = w.heap.size + 1 + 1 := ⟨_, rfl⟩
  rw [← hr] at kt ⊢
  have hr1 : r ≠ w.heap.size := by omega
  have hr2 : r ≠ w.heap.size + 1 := by omega
  have hr3 : w.heap.size ≤ r := by omega
  clear hr
  refine (HC.out _ (HR.out _ kb).1 (HR.out _ kb).2).mono ?_
  rintro e w4 ⟨rfl, hb4⟩
  replace k0 := cell_kept k0 hb4
  replace k1 := cell_kept k1 hb4
  replace k2 := cell_kept k2 hb4
  replace k3 := cell_kept k3 hb4
  replace kt := kt.below hb4
  replace kb := bt kb hb4
  clear hb4
  go_wp2_with fail
  go_region_held3 (fun w' => w'.cell? ⟨w.heap.size, 0, none⟩ = some (.bool p) ∧ w'.cell? ⟨w.heap.size, 1, none⟩ = some (.slice A n c) ∧ w'.cell? ⟨w.heap.size + 1, 0, none⟩ = some (.bool q) ∧ w'.cell? ⟨w.heap.size + 1, 1, none⟩ = some (.slice D n' d) ∧ Two w' r ∧ Below w.heap.size w w')
    (first | (exact ⟨k0, k1, k2, k3, kt, kb.drew⟩) | (go_split_ands; exact kept4 (by assumption) (by assumption) (by assumption) (by assumption) (by assumption) (by assumption) hbc) | (go_split_ands; exact put4 _ _ (by assumption) (by assumption) (by assumption) (by assumption) (by assumption) (by assumption) hr3 hr1 hr1 hr2 hr2))
    (first | (go_at_call 62; go_split_ands; refine (HS.out _ (HR.out _ (by assumption)).1 (HR.out _ (by assumption)).2).mono ?_; rintro e w5 ⟨A5, c5, rfl, hc5, hO5, hbc⟩) | (go_at_call 44; go_split_ands; refine (HB.out _ _ _ hc5 hO5.rd).mono ?_; rintro e w6 ⟨A7, c7, rfl, hc7, hO7, hbc⟩; replace hO7 := hO7.more (Two.lt (by assumption)); obtain ⟨u0, u1, t1, t2, t3, t4⟩ := Two.below (by assumption) hbc))
  all_goals
    have hfin := (‹_ ∧ _ ∧ _ ∧ _ ∧ _ ∧ Below w.heap.size w _›).2.2.2.2.2
    go_wp2
    exact bodyPost_ret (v := .agg #[.bool t, .slice A7 L.length c7]) (by simp [results, Try.results52, go_sem, t1, t2]) rfl ⟨A7, c7, rfl, hc7, ((hO7.put (Nat.lt_succ_self _) _).put (Nat.lt_succ_self _) _).more (Nat.le_succ_of_le hr3), hfin⟩

theorem ladd_any (p q : Bool) (a b : Nat) (A D : Option Addr) (n c n' d : Nat) (w : World) (hn : ln a = n) (hn' : ln b = n') (h60 : n ≤ 60) (h60' : n' ≤ 60) (hA : RdS w A (vi (nd a))) (hD : RdS w D (vi (nd b))) :
    Calls Try.prog 52 #[.agg #[.bool p, .slice A n c], .agg #[.bool q, .slice D n' d]] w (MadeB w.heap.size (plusB p a q b && decide (cap60 (plusN p a q b) ≠ [])) (cap60 (plusN p a q b)) w) := by
  unfold plusB plusN
  by_cases hpq : p = q
  · subst hpq
    have h := ladd_same p a b A D n c n' d w hn hn' h60 h60' hA hD
    rw [if_pos rfl, if_pos rfl]
    exact h
  · have hq : (p == q) = false := by simpa using hpq
    by_cases hab : a < b
    · have h := ladd_less p q a b A D n c n' d w hq hab hn hn' h60 h60' hA hD
      rw [if_neg hpq, if_pos hab, if_neg hpq, if_pos hab]
      exact h
    · have h := ladd_geq p q a b A D n c n' d w hq (by omega) hn hn' h60 h60' hA hD
      rw [if_neg hpq, if_neg hab, if_neg hpq, if_neg hab]
      exact h
theorem ladd_z (x y : Int) (A D : Option Addr) (n c n' d : Nat) (w : World) (hn : ln x.natAbs = n) (hn' : ln y.natAbs = n') (h60 : n ≤ 60) (h60' : n' ≤ 60) (hA : RdS w A (vi (zm x))) (hD : RdS w D (vi (zm y))) :
    Calls Try.prog 52 #[.agg #[.bool (zn x), .slice A n c], .agg #[.bool (zn y), .slice D n' d]] w (MadeZ w.heap.size (czi (x + y)) w) := by
  have h := ladd_any (zn x) (zn y) x.natAbs y.natAbs A D n c n' d w hn hn' h60 h60' hA hD
  obtain ⟨e1, e2⟩ := cut_zn (plusB (zn x) x.natAbs (zn y) y.natAbs) (plusN (zn x) x.natAbs (zn y) y.natAbs)
  rw [plus_z] at e1 e2
  unfold MadeZ
  rw [← e1, ← e2]
  exact h

set_option maxHeartbeats 1000000 in
theorem spec_badd_no (p q : Bool) (l m : List Int) (A D : Option Addr) (n c n' d : Nat) (w : World) (hl : l.length = n) (hm : m.length = n') (hn : n ≤ 9223372036854775807) (hn' : n' ≤ 9223372036854775807) (hk : (okB p l && okB q m) = false) (hA : RdS w A (vi l)) (hD : RdS w D (vi m)) :
    Calls Try.prog 25 #[.agg #[.bool p, .slice A n c], .agg #[.bool q, .slice D n' d]] w (MadeB w.heap.size false [] w) := by
  have H1 := Lib.hid (fun W h => spec_bok p l A n c W hl hn h)
  have H2 := Lib.hid (fun W h => spec_bok q m D n' d W hm hn' h)
  have HR : Hid (∀ W, Below w.heap.size w W → RdS W A (vi l) ∧ RdS W D (vi m)) := Lib.hid (fun W hb => ⟨hA.below hb, hD.below hb⟩)
  clear hl hm hA hD
  cases h1 : okB p l
  · rw [h1] at H1
    clear hk h1 H2
    go_enter Try.func25, Try.ntmps25
    go_wp2_with fail
    generalize hW : ((w.alloc (.cells #[.bool p, .slice A n c] 27)).alloc (.cells #[.bool q, .slice D n' d] 27)).alloc (.cells #[.bool false, .slice none 0 0] 27) = W3
    obtain ⟨k0, k1, k2, k3, kt, kb⟩ := boxes3 _ _ _ _ _ _ _ _ _ _ _ hW
    clear hW
    obtain ⟨r, hr⟩ : ∃ r, r = w.heap.size + 1 + 1 := ⟨_, rfl⟩
    rw [← hr] at kt ⊢
    have hr1 : r ≠ w.heap.size := by omega
    have hr2 : r ≠ w.heap.size + 1 := by omega
    have hr3 : w.heap.size ≤ r := by omega
    clear hr
    refine (H1.out _ (HR.out _ kb).1).mono ?_
    rintro e w4 ⟨rfl, hb4⟩
    obtain ⟨u0, u1, t1, t2, t3, t4⟩ := kt.below hb4
    have kb' := bt kb hb4
    go_wp2
    exact bodyPost_ret (v := .agg #[.bool false, .slice none 0 0]) (by simp [results, Try.results25, go_sem, t1, t2]) rfl ⟨none, 0, rfl, Nat.le_refl _, .inl rfl, below_put (below_put kb' hr3 _) hr3 _⟩
  · rw [h1, Bool.true_and] at hk
    rw [h1] at H1
    rw [hk] at H2
    clear hk h1
    go_enter Try.func25, Try.ntmps25
    go_wp2_with fail
    generalize hW : ((w.alloc (.cells #[.bool p, .slice A n c] 27)).alloc (.cells #[.bool q, .slice D n' d] 27)).alloc (.cells #[.bool false, .slice none 0 0] 27) = W3
    obtain ⟨k0, k1, k2, k3, kt, kb⟩ := boxes3 _ _ _ _ _ _ _ _ _ _ _ hW
    clear hW
    obtain ⟨r, hr⟩ : ∃ r, r = w.heap.size + 1 + 1 := ⟨_, rfl⟩
    rw [← hr] at kt ⊢
    have hr1 : r ≠ w.heap.size := by omega
    have hr2 : r ≠ w.heap.size + 1 := by omega
    have hr3 : w.heap.size ≤ r := by omega
    clear hr
    refine (H1.out _ (HR.out _ kb).1).mono ?_
    rintro e w4 ⟨rfl, hb4⟩
    replace k0 := cell_kept k0 hb4
    replace k1 := cell_kept k1 hb4
    replace k2 := cell_kept k2 hb4
    replace k3 := cell_kept k3 hb4
    replace kt := kt.below hb4
    replace kb := bt kb hb4
    clear hb4
    go_wp2_with fail
    refine (H2.out _ (HR.out _ kb).2).mono ?_
    rintro e w5 ⟨rfl, hb5⟩
    obtain ⟨u0, u1, t1, t2, t3, t4⟩ := kt.below hb5
    have kb' := bt kb hb5
    go_wp2
    exact bodyPost_ret (v := .agg #[.bool false, .slice none 0 0]) (by simp [results, Try.results25, go_sem, t1, t2]) rfl ⟨none, 0, rfl, Nat.le_refl _, .inl rfl, below_put (below_put kb' hr3 _) hr3 _⟩

set_option maxHeartbeats 1000000 in
theorem spec_badd_yes (x y : Int) (A D : Option Addr) (n c n' d : Nat) (w : World) (hn : ln x.natAbs = n) (hn' : ln y.natAbs = n') (h60 : n ≤ 60) (h60' : n' ≤ 60) (hcd : n' ≤ d) (hA : RdS w A (vi (zm x))) (hD : RdS w D (vi (zm y))) :
    Calls Try.prog 25 #[.agg #[.bool (zn x), .slice A n c], .agg #[.bool (zn y), .slice D n' d]] w (MadeZ w.heap.size (czi (x + y)) w) := by
  have H1 := Lib.hid (fun W h => spec_bok (zn x) (zm x) A n c W (by rw [zm_length, hn]) (by omega) h)
  have H2 := Lib.hid (fun W h => spec_bok (zn y) (zm y) D n' d W (by rw [zm_length, hn']) (by omega) h)
  rw [okB_mk (by omega)] at H1 H2
  have HR : Hid (∀ W, Below w.heap.size w W → RdS W A (vi (zm x)) ∧ RdS W D (vi (zm y))) := Lib.hid (fun W hb => ⟨hA.below hb, hD.below hb⟩)
  have HS := Lib.hid (fun W h h' => ladd_z x y A D n c n' d W hn hn' h60 h60' h h')
  unfold MadeZ at HS ⊢
  clear hn hn' hA hD
  generalize zn (czi (x + y)) = t at HS ⊢
  generalize zm (czi (x + y)) = L at HS ⊢
  generalize zn x = p at H1 H2 HS ⊢
  generalize zn y = q at H1 H2 HS ⊢
  go_enter Try.func25, Try.ntmps25
  go_wp2_with fail
  generalize hW : ((w.alloc (.cells #[.bool p, .slice A n c] 27)).alloc (.cells #[.bool q, .slice D n' d] 27)).alloc (.cells #[.bool false, .slice none 0 0] 27) = W3
  obtain ⟨k0, k1, k2, k3, kt, kb⟩ := boxes3 _ _ _ _ _ _ _ _ _ _ _ hW
  clear hW
  obtain ⟨r, hr⟩ : ∃ r, r = w.heap.size + 1 + 1 := ⟨_, rfl⟩
  rw [← hr] at kt ⊢
  have hr1 : r ≠ w.heap.size := by omega
  have hr2 : r ≠ w.heap.size + 1 := by omega
  have hr3 : w.heap.size ≤ r := by omega
  clear hr
  refine (H1.out _ (HR.out _ kb).1).mono ?_
  rintro e w4 ⟨rfl, hb4⟩
  replace k0 := cell_kept k0 hb4
  replace k1 := cell_kept k1 hb4
  replace k2 := cell_kept k2 hb4
  replace k3 := cell_kept k3 hb4
  replace kt := kt.below hb4
  replace kb := bt kb hb4
  clear hb4
  go_wp2_with fail
  refine (H2.out _ (HR.out _ kb).2).mono ?_
  rintro e w4 ⟨rfl, hb4⟩
  replace k0 := cell_kept k0 hb4
  replace k1 := cell_kept k1 hb4
  replace k2 := cell_kept k2 hb4
  replace k3 := cell_kept k3 hb4
  replace kt := kt.below hb4
  replace kb := bt kb hb4
  clear hb4
  go_wp2_with fail
  refine (HS.out _ (HR.out _ kb).1 (HR.out _ kb).2).mono ?_
  rintro e w6 ⟨A7, c7, rfl, hc7, hO7, hbc⟩
  have hlt := kt.lt
  obtain ⟨u0, u1, t1, t2, t3, t4⟩ := kt.below hbc
  have hfin := bt kb hbc
  go_wp2
  exact bodyPost_ret (v := .agg #[.bool t, .slice A7 L.length c7]) (by simp [results, Try.results25, go_sem, t1, t2]) rfl ⟨A7, c7, rfl, hc7, ((hO7.put hlt _).put hlt _).more (by omega), below_put (below_put hfin hr3 _) hr3 _⟩


theorem spec_badd (p q : Bool) (l m : List Int) (A D : Option Addr) (n c n' d : Nat) (w : World) (hl : l.length = n) (hm : m.length = n') (hn : n ≤ 9223372036854775807) (hn' : n' ≤ 9223372036854775807) (hcd : n' ≤ d) (hA : RdS w A (vi l)) (hD : RdS w D (vi m)) :
    Calls Try.prog 25 #[.agg #[.bool p, .slice A n c], .agg #[.bool q, .slice D n' d]] w (MadeZ w.heap.size (binZ (fun x y => czi (x + y)) p l q m) w) := by
  by_cases hk : (okB p l && okB q m) = true
  · obtain ⟨h1, h2⟩ := okB_two hk
    obtain ⟨x, rfl, rfl, hx⟩ := okB_z h1
    obtain ⟨y, rfl, rfl, hy⟩ := okB_z h2
    rw [binZ_yes hx hy]
    rw [zm_length] at hl hm
    exact spec_badd_yes x y A D n c n' d w hl hm (by omega) (by omega) hcd hA hD
  · have hk' : (okB p l && okB q m) = false := by simpa using hk
    rw [binZ_no hk']
    unfold MadeZ
    rw [zn_zero, zm_zero]
    exact spec_badd_no p q l m A D n c n' d w hl hm hn hn' hk' hA hD

set_option maxHeartbeats 1000000 in
theorem spec_bneg_yes (x : Int) (A : Option Addr) (n c : Nat) (w : World) (hn : ln x.natAbs = n) (h60 : n ≤ 60) (hc : n ≤ c) (hA : RdS w A (vi (zm x))) :
    Calls Try.prog 23 #[.agg #[.bool (zn x), .slice A n c]] w (MadeZ w.heap.size (czi (-x)) w) := by
  have H1 := Lib.hid (fun W h => spec_bok (zn x) (zm x) A n c W (by rw [zm_length, hn]) (by omega) h)
  rw [okB_mk (by omega)] at H1
  have HS := Lib.hid (fun W h => make_rd (!(zn x)) x.natAbs n c A W hn (by omega) hc h)
  obtain ⟨e1, e2⟩ := cut_zn (!(zn x)) x.natAbs
  rw [neg_z] at e1 e2
  rw [e1, e2] at HS
  have HR : Hid (∀ W, Below w.heap.size w W → RdS W A (vi (zm x))) := Lib.hid (fun W hb => hA.below hb)
  unfold MadeZ
  clear hn hA e1 e2
  generalize zn (czi (-x)) = t at HS ⊢
  generalize zm (czi (-x)) = L at HS ⊢
  generalize zn x = p at H1 HS ⊢
  go_enter Try.func23, Try.ntmps23
  go_wp2_with fail
  generalize hW : (w.alloc (.cells #[.bool p, .slice A n c] 27)).alloc (.cells #[.bool false, .slice none 0 0] 27) = W3
  obtain ⟨k0, k1, kt, kb⟩ := boxes2 _ _ _ _ _ _ _ _ hW
  clear hW
  obtain ⟨r, hr⟩ : ∃ r, r = w.heap.size + 1 := ⟨_, rfl⟩
  rw [← hr] at kt ⊢
  have hr3 : w.heap.size ≤ r := by omega
  clear hr
  refine (H1.out _ (HR.out _ kb)).mono ?_
  rintro e w4 ⟨rfl, hb4⟩
  replace k0 := cell_kept k0 hb4
  replace k1 := cell_kept k1 hb4
  replace kt := kt.below hb4
  replace kb := bt kb hb4
  clear hb4
  go_wp2_with fail
  refine (HS.out _ (HR.out _ kb)).mono ?_
  rintro e w6 ⟨A7, c7, rfl, hc7, hO7, hbc⟩
  have hlt := kt.lt
  obtain ⟨u0, u1, t1, t2, t3, t4⟩ := kt.below hbc
  have hfin := bt kb hbc
  go_wp2
  exact bodyPost_ret (v := .agg #[.bool t, .slice A7 L.length c7]) (by simp [results, Try.results23, go_sem, t1, t2]) rfl ⟨A7, c7, rfl, hc7, ((hO7.put hlt _).put hlt _).more (by omega), below_put (below_put hfin hr3 _) hr3 _⟩

set_option maxHeartbeats 1000000 in
theorem spec_bneg_no (p : Bool) (l : List Int) (A : Option Addr) (n c : Nat) (w : World) (hl : l.length = n) (hn : n ≤ 9223372036854775807) (hk : okB p l = false) (hA : RdS w A (vi l)) :
    Calls Try.prog 23 #[.agg #[.bool p, .slice A n c]] w (MadeB w.heap.size false [] w) := by
  have HK := Lib.hid (fun W h => spec_bok p l A n c W hl hn h)
  rw [hk] at HK
  clear hl hk
  go_enter Try.func23, Try.ntmps23
  go_wp2_with fail
  generalize hW : (w.alloc (.cells #[.bool p, .slice A n c] 27)).alloc (.cells #[.bool false, .slice none 0 0] 27) = W3
  obtain ⟨k0, k1, kt, kb⟩ := boxes2 _ _ _ _ _ _ _ _ hW
  clear hW
  refine (HK.out _ (hA.below kb)).mono ?_
  rintro e w4 ⟨rfl, hb4⟩
  obtain ⟨u0, u1, t1, t2, t3, t4⟩ := kt.below hb4
  have kb' := bt kb hb4
  go_wp2
  exact bodyPost_ret (v := .agg #[.bool false, .slice none 0 0]) (by simp [results, Try.results23, go_sem, t1, t2]) rfl ⟨none, 0, rfl, Nat.le_refl _, .inl rfl, below_put (below_put kb' (by omega) _) (by omega) _⟩
theorem spec_bneg (p : Bool) (l : List Int) (A : Option Addr) (n c : Nat) (w : World) (hl : l.length = n) (hn : n ≤ 9223372036854775807) (hc : n ≤ c) (hA : RdS w A (vi l)) :
    Calls Try.prog 23 #[.agg #[.bool p, .slice A n c]] w (MadeZ w.heap.size (unZ (fun x => czi (-x)) p l) w) := by
  by_cases hk : okB p l = true
  · obtain ⟨x, rfl, rfl, hx⟩ := okB_z hk
    rw [unZ_yes hx]
    rw [zm_length] at hl
    exact spec_bneg_yes x A n c w hl (by omega) hc hA
  · have hk' : okB p l = false := by simpa using hk
    rw [unZ_no hk']
    unfold MadeZ
    rw [zn_zero, zm_zero]
    exact spec_bneg_no p l A n c w hl hn hk' hA

set_option maxHeartbeats 1000000 in
theorem spec_bsub_no (p q : Bool) (l m : List Int) (A D : Option Addr) (n c n' d : Nat) (w : World) (hl : l.length = n) (hm : m.length = n') (hn : n ≤ 9223372036854775807) (hn' : n' ≤ 9223372036854775807) (hk : (okB p l && okB q m) = false) (hA : RdS w A (vi l)) (hD : RdS w D (vi m)) :
    Calls Try.prog 27 #[.agg #[.bool p, .slice A n c], .agg #[.bool q, .slice D n' d]] w (MadeB w.heap.size false [] w) := by
  have H1 := Lib.hid (fun W h => spec_bok p l A n c W hl hn h)
  have H2 := Lib.hid (fun W h => spec_bok q m D n' d W hm hn' h)
  have HR : Hid (∀ W, Below w.heap.size w W → RdS W A (vi l) ∧ RdS W D (vi m)) := Lib.hid (fun W hb => ⟨hA.below hb, hD.below hb⟩)
  clear hl hm hA hD
  cases h1 : okB p l
  · rw [h1] at H1
    clear hk h1 H2
    go_enter Try.func27, Try.ntmps27
    go_wp2_with fail
    generalize hW : ((w.alloc (.cells #[.bool p, .slice A n c] 27)).alloc (.cells #[.bool q, .slice D n' d] 27)).alloc (.cells #[.bool false, .slice none 0 0] 27) = W3
    obtain ⟨k0, k1, k2, k3, kt, kb⟩ := boxes3 _ _ _ _ _ _ _ _ _ _ _ hW
    clear hW
    obtain ⟨r, hr⟩ : ∃ r, r = w.heap.size + 1 + 1 := ⟨_, rfl⟩
    rw [← hr] at kt ⊢
    have hr1 : r ≠ w.heap.size := by omega
    have hr2 : r ≠ w.heap.size + 1 := by omega
    have hr3 : w.heap.size ≤ r := by omega
    clear hr
    refine (H1.out _ (HR.out _ kb).1).mono ?_
    rintro e w4 ⟨rfl, hb4⟩
    obtain ⟨u0, u1, t1, t2, t3, t4⟩ := kt.below hb4
    have kb' := bt kb hb4
    go_wp2
    exact bodyPost_ret (v := .agg #[.bool false, .slice none 0 0]) (by simp [results, Try.results27, go_sem, t1, t2]) rfl ⟨none, 0, rfl, Nat.le_refl _, .inl rfl, below_put (below_put kb' hr3 _) hr3 _⟩
  · rw [h1, Bool.true_and] at hk
    rw [h1] at H1
    rw [hk] at H2
    clear hk h1
    go_enter Try.func27, Try.ntmps27
    go_wp2_with fail
    generalize hW : ((w.alloc (.cells #[.bool p, .slice A n c] 27)).alloc (.cells #[.bool q, .slice D n' d] 27)).alloc (.cells #[.bool false, .slice none 0 0] 27) = W3
    obtain ⟨k0, k1, k2, k3, kt, kb⟩ := boxes3 _ _ _ _ _ _ _ _ _ _ _ hW
    clear hW
    obtain ⟨r, hr⟩ : ∃ r, r = w.heap.size + 1 + 1 := ⟨_, rfl⟩
    rw [← hr] at kt ⊢
    have hr1 : r ≠ w.heap.size := by omega
    have hr2 : r ≠ w.heap.size + 1 := by omega
    have hr3 : w.heap.size ≤ r := by omega
    clear hr
    refine (H1.out _ (HR.out _ kb).1).mono ?_
    rintro e w4 ⟨rfl, hb4⟩
    replace k0 := cell_kept k0 hb4
    replace k1 := cell_kept k1 hb4
    replace k2 := cell_kept k2 hb4
    replace k3 := cell_kept k3 hb4
    replace kt := kt.below hb4
    replace kb := bt kb hb4
    clear hb4
    go_wp2_with fail
    refine (H2.out _ (HR.out _ kb).2).mono ?_
    rintro e w5 ⟨rfl, hb5⟩
    obtain ⟨u0, u1, t1, t2, t3, t4⟩ := kt.below hb5
    have kb' := bt kb hb5
    go_wp2
    exact bodyPost_ret (v := .agg #[.bool false, .slice none 0 0]) (by simp [results, Try.results27, go_sem, t1, t2]) rfl ⟨none, 0, rfl, Nat.le_refl _, .inl rfl, below_put (below_put kb' hr3 _) hr3 _⟩

set_option maxHeartbeats 1000000 in
theorem spec_bsub_yes (x y : Int) (A D : Option Addr) (n c n' d : Nat) (w : World) (hn : ln x.natAbs = n) (hn' : ln y.natAbs = n') (h60 : n ≤ 60) (h60' : n' ≤ 60) (hcd : n' ≤ d) (hA : RdS w A (vi (zm x))) (hD : RdS w D (vi (zm y))) :
    Calls Try.prog 27 #[.agg #[.bool (zn x), .slice A n c], .agg #[.bool (zn y), .slice D n' d]] w (MadeZ w.heap.size (czi (x - y)) w) := by
  have H1 := Lib.hid (fun W h => spec_bok (zn x) (zm x) A n c W (by rw [zm_length, hn]) (by omega) h)
  have H2 := Lib.hid (fun W h => spec_bok (zn y) (zm y) D n' d W (by rw [zm_length, hn']) (by omega) h)
  rw [okB_mk (by omega)] at H1 H2
  have HR : Hid (∀ W, Below w.heap.size w W → RdS W A (vi (zm x)) ∧ RdS W D (vi (zm y))) := Lib.hid (fun W hb => ⟨hA.below hb, hD.below hb⟩)
  have HNg := Lib.hid (fun W h => spec_bneg_yes y D n' d W hn' h60' hcd h)
  have hcz : czi (-y) = -y := czi_in (by rw [Int.natAbs_neg]; omega)
  rw [hcz] at HNg
  have HS := Lib.hid (fun A' c' W (hx : RdS W A' (vi (zm (-y)))) h => ladd_z x (-y) A A' n c (zm (-y)).length c' W hn (by rw [zm_length]) h60 (by rw [zm_length, Int.natAbs_neg]; omega) h hx)
  rw [← Int.sub_eq_add_neg] at HS
  unfold MadeZ at HS HNg ⊢
  clear hn hn' hA hD hcz
  generalize zn (czi (x - y)) = t at HS ⊢
  generalize zm (czi (x - y)) = L at HS ⊢
  generalize zn (-y) = s at HS HNg
  generalize zm (-y) = M at HS HNg
  generalize zn x = p at H1 H2 HS ⊢
  generalize zn y = q at H1 H2 HS HNg ⊢
  go_enter Try.func27, Try.ntmps27
  go_wp2_with fail
  generalize hW : ((w.alloc (.cells #[.bool p, .slice A n c] 27)).alloc (.cells #[.bool q, .slice D n' d] 27)).alloc (.cells #[.bool false, .slice none 0 0] 27) = W3
  obtain ⟨k0, k1, k2, k3, kt, kb⟩ := boxes3 _ _ _ _ _ _ _ _ _ _ _ hW
  clear hW
  obtain ⟨r, hr⟩ : ∃ r, r = w.heap.size + 1 + 1 := ⟨_, rfl⟩
  rw [← hr] at kt ⊢
  have hr1 : r ≠ w.heap.size := by omega
  have hr2 : r ≠ w.heap.size + 1 := by omega
  have hr3 : w.heap.size ≤ r := by omega
  clear hr
  refine (H1.out _ (HR.out _ kb).1).mono ?_
  rintro e w4 ⟨rfl, hb4⟩
  replace k0 := cell_kept k0 hb4
  replace k1 := cell_kept k1 hb4
  replace k2 := cell_kept k2 hb4
  replace k3 := cell_kept k3 hb4
  replace kt := kt.below hb4
  replace kb := bt kb hb4
  clear hb4
  go_wp2_with fail
  refine (H2.out _ (HR.out _ kb).2).mono ?_
  rintro e w4 ⟨rfl, hb4⟩
  replace k0 := cell_kept k0 hb4
  replace k1 := cell_kept k1 hb4
  replace k2 := cell_kept k2 hb4
  replace k3 := cell_kept k3 hb4
  replace kt := kt.below hb4
  replace kb := bt kb hb4
  clear hb4
  go_wp2_with fail
  go_region_held3 (fun w' => w'.cell? ⟨w.heap.size, 0, none⟩ = some (.bool p) ∧ w'.cell? ⟨w.heap.size, 1, none⟩ = some (.slice A n c) ∧ w'.cell? ⟨w.heap.size + 1, 0, none⟩ = some (.bool q) ∧ w'.cell? ⟨w.heap.size + 1, 1, none⟩ = some (.slice D n' d) ∧ Two w' r ∧ Below w.heap.size w w')
    (first | (exact ⟨k0, k1, k2, k3, kt, kb.drew⟩) | (go_split_ands; exact kept4 (by assumption) (by assumption) (by assumption) (by assumption) (by assumption) (by assumption) hbc) | (go_split_ands; exact put4 _ _ (by assumption) (by assumption) (by assumption) (by assumption) (by assumption) (by assumption) hr3 hr1 hr1 hr2 hr2))
    (first | (go_at_call 23; go_split_ands; refine (HNg.out _ (HR.out _ (by assumption)).2).mono ?_; rintro e w5 ⟨A5, c5, rfl, hc5, hO5, hbc⟩) | (go_at_call 52; go_split_ands; refine (HS.out _ _ _ hO5.rd (HR.out _ (by assumption)).1).mono ?_; rintro e w6 ⟨A7, c7, rfl, hc7, hO7, hbc⟩; replace hO7 := hO7.more (Two.lt (by assumption)); obtain ⟨u0, u1, t1, t2, t3, t4⟩ := Two.below (by assumption) hbc))
  all_goals
    have hfin := (‹_ ∧ _ ∧ _ ∧ _ ∧ _ ∧ Below w.heap.size w _›).2.2.2.2.2
    go_wp2
    exact bodyPost_ret (v := .agg #[.bool t, .slice A7 L.length c7]) (by simp [results, Try.results27, go_sem, t1, t2]) rfl ⟨A7, c7, rfl, hc7, ((hO7.put (Nat.lt_succ_self _) _).put (Nat.lt_succ_self _) _).more (Nat.le_succ_of_le hr3), hfin⟩


theorem spec_bsub (p q : Bool) (l m : List Int) (A D : Option Addr) (n c n' d : Nat) (w : World) (hl : l.length = n) (hm : m.length = n') (hn : n ≤ 9223372036854775807) (hn' : n' ≤ 9223372036854775807) (hcd : n' ≤ d) (hA : RdS w A (vi l)) (hD : RdS w D (vi m)) :
    Calls Try.prog 27 #[.agg #[.bool p, .slice A n c], .agg #[.bool q, .slice D n' d]] w (MadeZ w.heap.size (binZ (fun x y => czi (x - y)) p l q m) w) := by
  by_cases hk : (okB p l && okB q m) = true
  · obtain ⟨h1, h2⟩ := okB_two hk
    obtain ⟨x, rfl, rfl, hx⟩ := okB_z h1
    obtain ⟨y, rfl, rfl, hy⟩ := okB_z h2
    rw [binZ_yes hx hy]
    rw [zm_length] at hl hm
    exact spec_bsub_yes x y A D n c n' d w hl hm (by omega) (by omega) hcd hA hD
  · have hk' : (okB p l && okB q m) = false := by simpa using hk
    rw [binZ_no hk']
    unfold MadeZ
    rw [zn_zero, zm_zero]
    exact spec_bsub_no p q l m A D n c n' d w hl hm hn hn' hk' hA hD

set_option maxHeartbeats 1000000 in
theorem spec_bmul_no (p q : Bool) (l m : List Int) (A D : Option Addr) (n c n' d : Nat) (w : World) (hl : l.length = n) (hm : m.length = n') (hn : n ≤ 9223372036854775807) (hn' : n' ≤ 9223372036854775807) (hk : (okB p l && okB q m) = false) (hA : RdS w A (vi l)) (hD : RdS w D (vi m)) :
    Calls Try.prog 29 #[.agg #[.bool p, .slice A n c], .agg #[.bool q, .slice D n' d]] w (MadeB w.heap.size false [] w) := by
  have H1 := Lib.hid (fun W h => spec_bok p l A n c W hl hn h)
  have H2 := Lib.hid (fun W h => spec_bok q m D n' d W hm hn' h)
  have HR : Hid (∀ W, Below w.heap.size w W → RdS W A (vi l) ∧ RdS W D (vi m)) := Lib.hid (fun W hb => ⟨hA.below hb, hD.below hb⟩)
  clear hl hm hA hD
  cases h1 : okB p l
  · rw [h1] at H1
    clear hk h1 H2
    go_enter Try.func29, Try.ntmps29
    go_wp2_with fail
    generalize hW : ((w.alloc (.cells #[.bool p, .slice A n c] 27)).alloc (.cells #[.bool q, .slice D n' d] 27)).alloc (.cells #[.bool false, .slice none 0 0] 27) = W3
    obtain ⟨k0, k1, k2, k3, kt, kb⟩ := boxes3 _ _ _ _ _ _ _ _ _ _ _ hW
    clear hW
    obtain ⟨r, hr⟩ : ∃ r, r = w.heap.size + 1 + 1 := ⟨_, rfl⟩
    rw [← hr] at kt ⊢
    have hr1 : r ≠ w.heap.size := by omega
    have hr2 : r ≠ w.heap.size + 1 := by omega
    have hr3 : w.heap.size ≤ r := by omega
    clear hr
    refine (H1.out _ (HR.out _ kb).1).mono ?_
    rintro e w4 ⟨rfl, hb4⟩
    obtain ⟨u0, u1, t1, t2, t3, t4⟩ := kt.below hb4
    have kb' := bt kb hb4
    go_wp2
    exact bodyPost_ret (v := .agg #[.bool false, .slice none 0 0]) (by simp [results, Try.results29, go_sem, t1, t2]) rfl ⟨none, 0, rfl, Nat.le_refl _, .inl rfl, below_put (below_put kb' hr3 _) hr3 _⟩
  · rw [h1, Bool.true_and] at hk
    rw [h1] at H1
    rw [hk] at H2
    clear hk h1
    go_enter Try.func29, Try.ntmps29
    go_wp2_with fail
    generalize hW : ((w.alloc (.cells #[.bool p, .slice A n c] 27)).alloc (.cells #[.bool q, .slice D n' d] 27)).alloc (.cells #[.bool false, .slice none 0 0] 27) = W3
    obtain ⟨k0, k1, k2, k3, kt, kb⟩ := boxes3 _ _ _ _ _ _ _ _ _ _ _ hW
    clear hW
    obtain ⟨r, hr⟩ : ∃ r, r = w.heap.size + 1 + 1 := ⟨_, rfl⟩
    rw [← hr] at kt ⊢
    have hr1 : r ≠ w.heap.size := by omega
    have hr2 : r ≠ w.heap.size + 1 := by omega
    have hr3 : w.heap.size ≤ r := by omega
    clear hr
    refine (H1.out _ (HR.out _ kb).1).mono ?_
    rintro e w4 ⟨rfl, hb4⟩
    replace k0 := cell_kept k0 hb4
    replace k1 := cell_kept k1 hb4
    replace k2 := cell_kept k2 hb4
    replace k3 := cell_kept k3 hb4
    replace kt := kt.below hb4
    replace kb := bt kb hb4
    clear hb4
    go_wp2_with fail
    refine (H2.out _ (HR.out _ kb).2).mono ?_
    rintro e w5 ⟨rfl, hb5⟩
    obtain ⟨u0, u1, t1, t2, t3, t4⟩ := kt.below hb5
    have kb' := bt kb hb5
    go_wp2
    exact bodyPost_ret (v := .agg #[.bool false, .slice none 0 0]) (by simp [results, Try.results29, go_sem, t1, t2]) rfl ⟨none, 0, rfl, Nat.le_refl _, .inl rfl, below_put (below_put kb' hr3 _) hr3 _⟩

set_option maxHeartbeats 1000000 in
theorem spec_bmul_yes (x y : Int) (A D : Option Addr) (n c n' d : Nat) (w : World) (hn : ln x.natAbs = n) (hn' : ln y.natAbs = n') (h60 : n ≤ 60) (h60' : n' ≤ 60) (hcd : n' ≤ d) (hA : RdS w A (vi (zm x))) (hD : RdS w D (vi (zm y))) :
    Calls Try.prog 29 #[.agg #[.bool (zn x), .slice A n c], .agg #[.bool (zn y), .slice D n' d]] w (MadeZ w.heap.size (czi (x * y)) w) := by
  have H1 := Lib.hid (fun W h => spec_bok (zn x) (zm x) A n c W (by rw [zm_length, hn]) (by omega) h)
  have H2 := Lib.hid (fun W h => spec_bok (zn y) (zm y) D n' d W (by rw [zm_length, hn']) (by omega) h)
  rw [okB_mk (by omega)] at H1 H2
  have HR : Hid (∀ W, Below w.heap.size w W → RdS W A (vi (zm x)) ∧ RdS W D (vi (zm y))) := Lib.hid (fun W hb => ⟨hA.below hb, hD.below hb⟩)
  have HMu := Lib.hid (fun W h h' => spec_l02Mul x.natAbs y.natAbs A D n c n' d W hn hn' (by omega) (by omega) h h')
  have hml := mul_len hn hn'
  have HB := Lib.hid (fun A c W (h1 : (nd (x.natAbs * y.natAbs)).length ≤ c) (h2 : RdS W A (vi (nd (x.natAbs * y.natAbs)))) => make_rd (!(zn x == zn y)) (x.natAbs * y.natAbs) (nd (x.natAbs * y.natAbs)).length c A W (by rw [nd_length]) (by rw [nd_length]; omega) h1 h2)
  obtain ⟨e1, e2⟩ := cut_zn (!(zn x == zn y)) (x.natAbs * y.natAbs)
  rw [times_z] at e1 e2
  rw [e1, e2] at HB
  unfold MadeZ
  clear hn hn' hA hD e1 e2 hml
  generalize zn (czi (x * y)) = t at HB ⊢
  generalize zm (czi (x * y)) = L at HB ⊢
  generalize nd (x.natAbs * y.natAbs) = M at HMu HB
  generalize zn x = p at H1 H2 HB ⊢
  generalize zn y = q at H1 H2 HB ⊢
  go_enter Try.func29, Try.ntmps29
  go_wp2_with fail
  generalize hW : ((w.alloc (.cells #[.bool p, .slice A n c] 27)).alloc (.cells #[.bool q, .slice D n' d] 27)).alloc (.cells #[.bool false, .slice none 0 0] 27) = W3
  obtain ⟨k0, k1, k2, k3, kt, kb⟩ := boxes3 _ _ _ _ _ _ _ _ _ _ _ hW
  clear hW
  obtain ⟨r, hr⟩ : ∃ r, r = w.heap.size + 1 + 1 := ⟨_, rfl⟩
  rw [← hr] at kt ⊢
  have hr1 : r ≠ w.heap.size := by omega
  have hr2 : r ≠ w.heap.size + 1 := by omega
  have hr3 : w.heap.size ≤ r := by omega
  clear hr
  refine (H1.out _ (HR.out _ kb).1).mono ?_
  rintro e w4 ⟨rfl, hb4⟩
  replace k0 := cell_kept k0 hb4
  replace k1 := cell_kept k1 hb4
  replace k2 := cell_kept k2 hb4
  replace k3 := cell_kept k3 hb4
  replace kt := kt.below hb4
  replace kb := bt kb hb4
  clear hb4
  go_wp2_with fail
  refine (H2.out _ (HR.out _ kb).2).mono ?_
  rintro e w4 ⟨rfl, hb4⟩
  replace k0 := cell_kept k0 hb4
  replace k1 := cell_kept k1 hb4
  replace k2 := cell_kept k2 hb4
  replace k3 := cell_kept k3 hb4
  replace kt := kt.below hb4
  replace kb := bt kb hb4
  clear hb4
  go_wp2_with fail
  go_region_held3 (fun w' => w'.cell? ⟨w.heap.size, 0, none⟩ = some (.bool p) ∧ w'.cell? ⟨w.heap.size, 1, none⟩ = some (.slice A n c) ∧ w'.cell? ⟨w.heap.size + 1, 0, none⟩ = some (.bool q) ∧ w'.cell? ⟨w.heap.size + 1, 1, none⟩ = some (.slice D n' d) ∧ Two w' r ∧ Below w.heap.size w w')
    (first | (exact ⟨k0, k1, k2, k3, kt, kb.drew⟩) | (go_split_ands; exact kept4 (by assumption) (by assumption) (by assumption) (by assumption) (by assumption) (by assumption) hbc) | (go_split_ands; exact put4 _ _ (by assumption) (by assumption) (by assumption) (by assumption) (by assumption) (by assumption) hr3 hr1 hr1 hr2 hr2))
    (first | (go_at_call 56; go_split_ands; refine (HMu.out _ (HR.out _ (by assumption)).1 (HR.out _ (by assumption)).2).mono ?_; rintro e w5 ⟨A5, c5, rfl, hc5, hO5, hbc⟩) | (go_at_call 44; go_split_ands; refine (HB.out _ _ _ hc5 hO5.rd).mono ?_; rintro e w6 ⟨A7, c7, rfl, hc7, hO7, hbc⟩; replace hO7 := hO7.more (Two.lt (by assumption)); obtain ⟨u0, u1, t1, t2, t3, t4⟩ := Two.below (by assumption) hbc))
  all_goals
    have hfin := (‹_ ∧ _ ∧ _ ∧ _ ∧ _ ∧ Below w.heap.size w _›).2.2.2.2.2
    go_wp2
    exact bodyPost_ret (v := .agg #[.bool t, .slice A7 L.length c7]) (by simp [results, Try.results29, go_sem, t1, t2]) rfl ⟨A7, c7, rfl, hc7, ((hO7.put (Nat.lt_succ_self _) _).put (Nat.lt_succ_self _) _).more (Nat.le_succ_of_le hr3), hfin⟩


theorem spec_bmul (p q : Bool) (l m : List Int) (A D : Option Addr) (n c n' d : Nat) (w : World) (hl : l.length = n) (hm : m.length = n') (hn : n ≤ 9223372036854775807) (hn' : n' ≤ 9223372036854775807) (hcd : n' ≤ d) (hA : RdS w A (vi l)) (hD : RdS w D (vi m)) :
    Calls Try.prog 29 #[.agg #[.bool p, .slice A n c], .agg #[.bool q, .slice D n' d]] w (MadeZ w.heap.size (binZ (fun x y => czi (x * y)) p l q m) w) := by
  by_cases hk : (okB p l && okB q m) = true
  · obtain ⟨h1, h2⟩ := okB_two hk
    obtain ⟨x, rfl, rfl, hx⟩ := okB_z h1
    obtain ⟨y, rfl, rfl, hy⟩ := okB_z h2
    rw [binZ_yes hx hy]
    rw [zm_length] at hl hm
    exact spec_bmul_yes x y A D n c n' d w hl hm (by omega) (by omega) hcd hA hD
  · have hk' : (okB p l && okB q m) = false := by simpa using hk
    rw [binZ_no hk']
    unfold MadeZ
    rw [zn_zero, zm_zero]
    exact spec_bmul_no p q l m A D n c n' d w hl hm hn hn' hk' hA hD
theorem zm_czi (z : Int) : (zm (czi z)).length ≤ 1048576 := by rw [zm_length]; have := czi_len z; omega
theorem unZ_len (F : Int → Int) (p : Bool) (l : List Int) : (zm (unZ (fun x => czi (F x)) p l)).length ≤ 1048576 := by
  unfold unZ
  split
  · exact zm_czi _
  · rw [zm_zero]; simp
theorem binZ_len (F : Int → Int → Int) (p q : Bool) (l m : List Int) : (zm (binZ (fun x y => czi (F x y)) p l q m)).length ≤ 1048576 := by
  unfold binZ
  split
  · exact zm_czi _
  · rw [zm_zero]; simp
end Go.Proofs.Ytnejpdlikdgnnaa
