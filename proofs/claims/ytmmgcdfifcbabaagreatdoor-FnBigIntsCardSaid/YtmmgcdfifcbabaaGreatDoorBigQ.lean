/-
  Big integers of the program: 'times'; 'BigIntAdd', 'BigIntSub', 'BigIntMul'.
-/
import Derived.Test.YtmmgcdfifcbabaaGreatDoorBigP
namespace Go.Proofs.YtmmgcdfifcbabaaGreatDoor
open Go.ChangeShapes Go.WideShapes Go.ChangeAt Go.RowKit
open Go.ChangeMaps (open_string shut_string)
set_option linter.unusedVariables false
set_option linter.unusedSimpArgs false
set_option maxRecDepth 4000

set_option maxHeartbeats 1000000 in
theorem times_any (p q : Bool) (a b : Nat) (A D : Option Addr) (n c n' d : Nat) (w : World) (hn : ln a = n) (hn' : ln b = n') (h60 : n ≤ 60) (h60' : n' ≤ 60) (hA : RdS w A (vi (nd a))) (hD : RdS w D (vi (nd b))) :
    Calls Tryz.prog 24 #[.agg #[.bool p, .slice A n c], .agg #[.bool q, .slice D n' d]] w (MadeB w.heap.size (!(p == q)) (cap60 (a * b)) w) := by
  have HS := Lib.hid (fun W h h' => prod_any a b A D n c n' d W hn hn' h60 h60' h h')
  have HR : Hid (∀ W, Below w.heap.size w W → RdS W A (vi (nd a)) ∧ RdS W D (vi (nd b))) := Lib.hid (fun W hb => ⟨hA.below hb, hD.below hb⟩)
  clear hn hn' hA hD
  generalize cap60 (a * b) = L at HS ⊢
  go_enter Tryz.func24, Tryz.ntmps24
  go_wp2_with fail
  generalize hW : ((w.alloc (.cells #[.bool p, .slice A n c] 46)).alloc (.cells #[.bool q, .slice D n' d] 46)).alloc (.cells #[.bool false, .slice none 0 0] 46) = W3
  obtain ⟨k0, k1, k2, k3, kt, kb⟩ := boxes3 _ _ _ _ _ _ _ _ _ _ _ hW
  clear hW
  obtain ⟨r, hr⟩ : ∃ r, r = w.heap.size + 1 + 1 := ⟨_, rfl⟩
  rw [← hr] at kt ⊢
  have hr1 : r ≠ w.heap.size := by omega
  have hr2 : r ≠ w.heap.size + 1 := by omega
  have hr3 : w.heap.size ≤ r := by omega
  clear hr
  go_region_held3 (fun w' => w'.cell? ⟨w.heap.size, 0, none⟩ = some (.bool p) ∧ w'.cell? ⟨w.heap.size, 1, none⟩ = some (.slice A n c) ∧ w'.cell? ⟨w.heap.size + 1, 0, none⟩ = some (.bool q) ∧ w'.cell? ⟨w.heap.size + 1, 1, none⟩ = some (.slice D n' d) ∧ Two w' r ∧ Below w.heap.size w w')
    (first | (exact ⟨k0, k1, k2, k3, kt, kb.drew⟩) | (go_split_ands; exact kept4 (by assumption) (by assumption) (by assumption) (by assumption) (by assumption) (by assumption) hbc) | (go_split_ands; exact put4 _ _ (by assumption) (by assumption) (by assumption) (by assumption) (by assumption) (by assumption) hr3 hr1 hr1 hr2 hr2))
    (first | (go_at_call 45; go_split_ands; refine (HS.out _ (HR.out _ (by assumption)).1 (HR.out _ (by assumption)).2).mono ?_; rintro e w5 ⟨A5, c5, rfl, hc5, hO5, hbc⟩; obtain ⟨u0, u1, t1, t2, t3, t4⟩ := Two.below (by assumption) hbc; have hOO := Two.own (by assumption) hO5 (by assumption)))
  have hfin := (‹_ ∧ _ ∧ _ ∧ _ ∧ _ ∧ Below w.heap.size w _›).2.2.2.2.2
  go_wp2
  exact bodyPost_ret (v := .agg #[.bool (!(p == q)), .slice A5 L.length c5]) (by simp [results, Tryz.results24, go_sem, t1, t2]) rfl ⟨A5, c5, rfl, hc5, hOO _ _, hfin⟩
theorem times_z (x y : Int) : (if (!(zn x == zn y)) then -((x.natAbs * y.natAbs : Nat) : Int) else ((x.natAbs * y.natAbs : Nat) : Int)) = x * y := by
  unfold zn
  rw [Int.natCast_mul]
  by_cases hx : x < 0
  · have ex : ((x.natAbs : Nat) : Int) = -x := by omega
    by_cases hy : y < 0
    · have ey : ((y.natAbs : Nat) : Int) = -y := by omega
      rw [ex, ey, decide_eq_true hx, decide_eq_true hy]
      simp [Int.neg_mul, Int.mul_neg]
    · have ey : ((y.natAbs : Nat) : Int) = y := by omega
      rw [ex, ey, decide_eq_true hx, decide_eq_false hy]
      simp [Int.neg_mul, Int.mul_neg]
  · have ex : ((x.natAbs : Nat) : Int) = x := by omega
    by_cases hy : y < 0
    · have ey : ((y.natAbs : Nat) : Int) = -y := by omega
      rw [ex, ey, decide_eq_false hx, decide_eq_true hy]
      simp [Int.neg_mul, Int.mul_neg]
    · have ey : ((y.natAbs : Nat) : Int) = y := by omega
      rw [ex, ey, decide_eq_false hx, decide_eq_false hy]
      simp [Int.neg_mul, Int.mul_neg]
theorem cap60_len' (v : Nat) : (cap60 v).length ≤ 60 := by
  by_cases h : ln v ≤ 60
  · rw [cap60_yes' h, nd_length]; exact h
  · rw [cap60_no' (by omega)]; simp

set_option maxHeartbeats 1000000 in
theorem impl_badd_yes (p q : Bool) (a b : Nat) (A D : Option Addr) (n c n' d : Nat) (w : World) (hn : ln a = n) (hn' : ln b = n') (h60 : n ≤ 60) (h60' : n' ≤ 60) (hp : okB p (nd a) = true) (hq : okB q (nd b) = true) (hA : RdS w A (vi (nd a))) (hD : RdS w D (vi (nd b))) :
    Calls Tryz.prog 7 #[.agg #[.bool p, .slice A n c], .agg #[.bool q, .slice D n' d]] w (MadeB w.heap.size ((plusB p a q b) && decide (cap60 (plusN p a q b) ≠ [])) (cap60 (plusN p a q b)) w) := by
  have HK := Lib.hid (fun W h h' => are_big p q (nd a) (nd b) A D n c n' d W (by rw [nd_length, hn]) (by rw [nd_length, hn']) (by omega) (by omega) h h')
  rw [hp, hq] at HK
  have HS := Lib.hid (fun W h h' => plus_any p q a b A D n c n' d W hn hn' h60 h60' h h')
  have hL : (cap60 (plusN p a q b)).length ≤ 1048576 := by have := cap60_len' (plusN p a q b); omega
  have HR : Hid (∀ W, Below w.heap.size w W → RdS W A (vi (nd a)) ∧ RdS W D (vi (nd b))) := Lib.hid (fun W hb => ⟨hA.below hb, hD.below hb⟩)
  clear hn hn' hA hD hp hq
  generalize cap60 (plusN p a q b) = L at HS hL ⊢
  generalize (plusB p a q b) = s at HS ⊢
  have HB := Lib.hid (fun B A c W (hc : L.length ≤ c) (ho : OwnS B W A (vi L)) => bigInt_any B s L A L.length c W rfl hL hc ho)
  generalize (s && decide (L ≠ [])) = t at HB ⊢
  go_enter Tryz.func7, Tryz.ntmps7
  go_wp2_with fail
  generalize hW : ((w.alloc (.cells #[.bool p, .slice A n c] 25)).alloc (.cells #[.bool q, .slice D n' d] 25)).alloc (.cells #[.bool false, .slice none 0 0] 25) = W3
  obtain ⟨k0, k1, k2, k3, kt, kb⟩ := boxes3 _ _ _ _ _ _ _ _ _ _ _ hW
  clear hW
  obtain ⟨r, hr⟩ : ∃ r, r = w.heap.size + 1 + 1 := ⟨_, rfl⟩
  rw [← hr] at kt ⊢
  have hr1 : r ≠ w.heap.size := by omega
  have hr2 : r ≠ w.heap.size + 1 := by omega
  have hr3 : w.heap.size ≤ r := by omega
  clear hr
  refine (HK.out _ (HR.out _ kb).1 (HR.out _ kb).2).mono ?_
  rintro e w4 ⟨rfl, hb4⟩
  replace k0 := cell_kept k0 hb4
  replace k1 := cell_kept k1 hb4
  replace k2 := cell_kept k2 hb4
  replace k3 := cell_kept k3 hb4
  replace kt := kt.below hb4
  replace kb := bt kb hb4
  clear hb4
  go_wp2_with fail
  go_region_held3 (fun w' => w'.cell? ⟨w.heap.size, 0, none⟩ = some (.bool p) ∧ w'.cell? ⟨w.heap.size, 1, none⟩ = some (.slice A n c) ∧ w'.cell? ⟨w.heap.size + 1, 0, none⟩ = some (.bool q) ∧ w'.cell? ⟨w.heap.size + 1, 1, none⟩ = some (.slice D n' d) ∧ Two w' r ∧ Below w.heap.size w w')
    (first | (exact ⟨k0, k1, k2, k3, kt, kb.drew⟩) | (go_split_ands; exact kept4 (by assumption) (by assumption) (by assumption) (by assumption) (by assumption) (by assumption) hbc) | (go_split_ands; exact put4 _ _ (by assumption) (by assumption) (by assumption) (by assumption) (by assumption) (by assumption) hr3 hr1 hr1 hr2 hr2))
    (first | (go_at_call 19; go_split_ands; refine (signedOf_any _ _ _ _ _).mono ?_; rintro e w5 ⟨rfl, hbc⟩) | (go_at_call 20; go_split_ands; refine (HS.out _ (HR.out _ (by assumption)).1 (HR.out _ (by assumption)).2).mono ?_; rintro e w5 ⟨A5, c5, rfl, hc5, hO5, hbc⟩; replace hO5 := hO5.more (Two.lt (by assumption))) | (go_at_call 21; go_split_ands; refine (HB.out _ _ _ _ hc5 hO5).mono ?_; rintro e w6 ⟨A7, c7, rfl, hc7, hO7, hbc⟩; obtain ⟨u0, u1, t1, t2, t3, t4⟩ := Two.below (by assumption) hbc))
  all_goals
    have hfin := (‹_ ∧ _ ∧ _ ∧ _ ∧ _ ∧ Below w.heap.size w _›).2.2.2.2.2
    go_wp2
    exact bodyPost_ret (v := .agg #[.bool t, .slice A7 L.length c7]) (by simp [results, Tryz.results7, go_sem, t1, t2]) rfl ⟨A7, c7, rfl, hc7, ((hO7.put (Nat.lt_succ_self _) _).put (Nat.lt_succ_self _) _).more (Nat.le_succ_of_le hr3), hfin⟩

set_option maxHeartbeats 1000000 in
theorem impl_badd_no (p q : Bool) (l m : List Int) (A D : Option Addr) (n c n' d : Nat) (w : World) (hl : l.length = n) (hm : m.length = n') (hn : n ≤ 9223372036854775807) (hn' : n' ≤ 9223372036854775807) (hk : (okB p l && okB q m) = false) (hA : RdS w A (vi l)) (hD : RdS w D (vi m)) :
    Calls Tryz.prog 7 #[.agg #[.bool p, .slice A n c], .agg #[.bool q, .slice D n' d]] w (MadeB w.heap.size false [] w) := by
  have HK := Lib.hid (fun W h h' => are_big p q l m A D n c n' d W hl hm hn hn' h h')
  rw [hk] at HK
  clear hl hm hk
  go_enter Tryz.func7, Tryz.ntmps7
  go_wp2_with fail
  generalize hW : ((w.alloc (.cells #[.bool p, .slice A n c] 25)).alloc (.cells #[.bool q, .slice D n' d] 25)).alloc (.cells #[.bool false, .slice none 0 0] 25) = W3
  obtain ⟨k0, k1, k2, k3, kt, kb⟩ := boxes3 _ _ _ _ _ _ _ _ _ _ _ hW
  clear hW
  refine (HK.out _ (hA.below kb) (hD.below kb)).mono ?_
  rintro e w4 ⟨rfl, hb4⟩
  obtain ⟨u0, u1, t1, t2, t3, t4⟩ := kt.below hb4
  have kb' := bt kb hb4
  go_wp2
  exact bodyPost_ret (v := .agg #[.bool false, .slice none 0 0]) (by simp [results, Tryz.results7, go_sem, t1, t2]) rfl ⟨none, 0, rfl, Nat.le_refl _, .inl rfl, below_put (below_put kb' (by omega) _) (by omega) _⟩

set_option maxHeartbeats 1000000 in
theorem impl_bsub_yes (p q : Bool) (a b : Nat) (A D : Option Addr) (n c n' d : Nat) (w : World) (hn : ln a = n) (hn' : ln b = n') (h60 : n ≤ 60) (h60' : n' ≤ 60) (hp : okB p (nd a) = true) (hq : okB q (nd b) = true) (hA : RdS w A (vi (nd a))) (hD : RdS w D (vi (nd b))) :
    Calls Tryz.prog 9 #[.agg #[.bool p, .slice A n c], .agg #[.bool q, .slice D n' d]] w (MadeB w.heap.size ((plusB p a (!q) b) && decide (cap60 (plusN p a (!q) b) ≠ [])) (cap60 (plusN p a (!q) b)) w) := by
  have HK := Lib.hid (fun W h h' => are_big p q (nd a) (nd b) A D n c n' d W (by rw [nd_length, hn]) (by rw [nd_length, hn']) (by omega) (by omega) h h')
  rw [hp, hq] at HK
  have HS := Lib.hid (fun W h h' => plus_any p (!q) a b A D n c n' d W hn hn' h60 h60' h h')
  have hL : (cap60 (plusN p a (!q) b)).length ≤ 1048576 := by have := cap60_len' (plusN p a (!q) b); omega
  have HR : Hid (∀ W, Below w.heap.size w W → RdS W A (vi (nd a)) ∧ RdS W D (vi (nd b))) := Lib.hid (fun W hb => ⟨hA.below hb, hD.below hb⟩)
  clear hn hn' hA hD hp hq
  generalize cap60 (plusN p a (!q) b) = L at HS hL ⊢
  generalize (plusB p a (!q) b) = s at HS ⊢
  have HB := Lib.hid (fun B A c W (hc : L.length ≤ c) (ho : OwnS B W A (vi L)) => bigInt_any B s L A L.length c W rfl hL hc ho)
  generalize (s && decide (L ≠ [])) = t at HB ⊢
  go_enter Tryz.func9, Tryz.ntmps9
  go_wp2_with fail
  generalize hW : ((w.alloc (.cells #[.bool p, .slice A n c] 25)).alloc (.cells #[.bool q, .slice D n' d] 25)).alloc (.cells #[.bool false, .slice none 0 0] 25) = W3
  obtain ⟨k0, k1, k2, k3, kt, kb⟩ := boxes3 _ _ _ _ _ _ _ _ _ _ _ hW
  clear hW
  obtain ⟨r, hr⟩ : ∃ r, r = w.heap.size + 1 + 1 := ⟨_, rfl⟩
  rw [← hr] at kt ⊢
  have hr1 : r ≠ w.heap.size := by omega
  have hr2 : r ≠ w.heap.size + 1 := by omega
  have hr3 : w.heap.size ≤ r := by omega
  clear hr
  refine (HK.out _ (HR.out _ kb).1 (HR.out _ kb).2).mono ?_
  rintro e w4 ⟨rfl, hb4⟩
  replace k0 := cell_kept k0 hb4
  replace k1 := cell_kept k1 hb4
  replace k2 := cell_kept k2 hb4
  replace k3 := cell_kept k3 hb4
  replace kt := kt.below hb4
  replace kb := bt kb hb4
  clear hb4
  go_wp2_with fail
  go_region_held3 (fun w' => w'.cell? ⟨w.heap.size, 0, none⟩ = some (.bool p) ∧ w'.cell? ⟨w.heap.size, 1, none⟩ = some (.slice A n c) ∧ w'.cell? ⟨w.heap.size + 1, 0, none⟩ = some (.bool q) ∧ w'.cell? ⟨w.heap.size + 1, 1, none⟩ = some (.slice D n' d) ∧ Two w' r ∧ Below w.heap.size w w')
    (first | (exact ⟨k0, k1, k2, k3, kt, kb.drew⟩) | (go_split_ands; exact kept4 (by assumption) (by assumption) (by assumption) (by assumption) (by assumption) (by assumption) hbc) | (go_split_ands; exact put4 _ _ (by assumption) (by assumption) (by assumption) (by assumption) (by assumption) (by assumption) hr3 hr1 hr1 hr2 hr2))
    (first | (go_at_call 19; go_split_ands; refine (signedOf_any _ _ _ _ _).mono ?_; rintro e w5 ⟨rfl, hbc⟩) | (go_at_call 23; go_split_ands; refine (negated_any _ _ _ _ _).mono ?_; rintro e w5 ⟨rfl, hbc⟩) | (go_at_call 20; go_split_ands; refine (HS.out _ (HR.out _ (by assumption)).1 (HR.out _ (by assumption)).2).mono ?_; rintro e w5 ⟨A5, c5, rfl, hc5, hO5, hbc⟩; replace hO5 := hO5.more (Two.lt (by assumption))) | (go_at_call 21; go_split_ands; refine (HB.out _ _ _ _ hc5 hO5).mono ?_; rintro e w6 ⟨A7, c7, rfl, hc7, hO7, hbc⟩; obtain ⟨u0, u1, t1, t2, t3, t4⟩ := Two.below (by assumption) hbc))
  all_goals
    have hfin := (‹_ ∧ _ ∧ _ ∧ _ ∧ _ ∧ Below w.heap.size w _›).2.2.2.2.2
    go_wp2
    exact bodyPost_ret (v := .agg #[.bool t, .slice A7 L.length c7]) (by simp [results, Tryz.results9, go_sem, t1, t2]) rfl ⟨A7, c7, rfl, hc7, ((hO7.put (Nat.lt_succ_self _) _).put (Nat.lt_succ_self _) _).more (Nat.le_succ_of_le hr3), hfin⟩

set_option maxHeartbeats 1000000 in
theorem impl_bsub_no (p q : Bool) (l m : List Int) (A D : Option Addr) (n c n' d : Nat) (w : World) (hl : l.length = n) (hm : m.length = n') (hn : n ≤ 9223372036854775807) (hn' : n' ≤ 9223372036854775807) (hk : (okB p l && okB q m) = false) (hA : RdS w A (vi l)) (hD : RdS w D (vi m)) :
    Calls Tryz.prog 9 #[.agg #[.bool p, .slice A n c], .agg #[.bool q, .slice D n' d]] w (MadeB w.heap.size false [] w) := by
  have HK := Lib.hid (fun W h h' => are_big p q l m A D n c n' d W hl hm hn hn' h h')
  rw [hk] at HK
  clear hl hm hk
  go_enter Tryz.func9, Tryz.ntmps9
  go_wp2_with fail
  generalize hW : ((w.alloc (.cells #[.bool p, .slice A n c] 25)).alloc (.cells #[.bool q, .slice D n' d] 25)).alloc (.cells #[.bool false, .slice none 0 0] 25) = W3
  obtain ⟨k0, k1, k2, k3, kt, kb⟩ := boxes3 _ _ _ _ _ _ _ _ _ _ _ hW
  clear hW
  refine (HK.out _ (hA.below kb) (hD.below kb)).mono ?_
  rintro e w4 ⟨rfl, hb4⟩
  obtain ⟨u0, u1, t1, t2, t3, t4⟩ := kt.below hb4
  have kb' := bt kb hb4
  go_wp2
  exact bodyPost_ret (v := .agg #[.bool false, .slice none 0 0]) (by simp [results, Tryz.results9, go_sem, t1, t2]) rfl ⟨none, 0, rfl, Nat.le_refl _, .inl rfl, below_put (below_put kb' (by omega) _) (by omega) _⟩

set_option maxHeartbeats 1000000 in
theorem impl_bmul_yes (p q : Bool) (a b : Nat) (A D : Option Addr) (n c n' d : Nat) (w : World) (hn : ln a = n) (hn' : ln b = n') (h60 : n ≤ 60) (h60' : n' ≤ 60) (hp : okB p (nd a) = true) (hq : okB q (nd b) = true) (hA : RdS w A (vi (nd a))) (hD : RdS w D (vi (nd b))) :
    Calls Tryz.prog 10 #[.agg #[.bool p, .slice A n c], .agg #[.bool q, .slice D n' d]] w (MadeB w.heap.size ((!(p == q)) && decide (cap60 (a * b) ≠ [])) (cap60 (a * b)) w) := by
  have HK := Lib.hid (fun W h h' => are_big p q (nd a) (nd b) A D n c n' d W (by rw [nd_length, hn]) (by rw [nd_length, hn']) (by omega) (by omega) h h')
  rw [hp, hq] at HK
  have HS := Lib.hid (fun W h h' => times_any p q a b A D n c n' d W hn hn' h60 h60' h h')
  have hL : (cap60 (a * b)).length ≤ 1048576 := by have := cap60_len' (a * b); omega
  have HR : Hid (∀ W, Below w.heap.size w W → RdS W A (vi (nd a)) ∧ RdS W D (vi (nd b))) := Lib.hid (fun W hb => ⟨hA.below hb, hD.below hb⟩)
  clear hn hn' hA hD hp hq
  generalize cap60 (a * b) = L at HS hL ⊢
  generalize (!(p == q)) = s at HS ⊢
  have HB := Lib.hid (fun B A c W (hc : L.length ≤ c) (ho : OwnS B W A (vi L)) => bigInt_any B s L A L.length c W rfl hL hc ho)
  generalize (s && decide (L ≠ [])) = t at HB ⊢
  go_enter Tryz.func10, Tryz.ntmps10
  go_wp2_with fail
  generalize hW : ((w.alloc (.cells #[.bool p, .slice A n c] 25)).alloc (.cells #[.bool q, .slice D n' d] 25)).alloc (.cells #[.bool false, .slice none 0 0] 25) = W3
  obtain ⟨k0, k1, k2, k3, kt, kb⟩ := boxes3 _ _ _ _ _ _ _ _ _ _ _ hW
  clear hW
  obtain ⟨r, hr⟩ : ∃ r, r = w.heap.size + 1 + 1 := ⟨_, rfl⟩
  rw [← hr] at kt ⊢
  have hr1 : r ≠ w.heap.size := by omega
  have hr2 : r ≠ w.heap.size + 1 := by omega
  have hr3 : w.heap.size ≤ r := by omega
  clear hr
  refine (HK.out _ (HR.out _ kb).1 (HR.out _ kb).2).mono ?_
  rintro e w4 ⟨rfl, hb4⟩
  replace k0 := cell_kept k0 hb4
  replace k1 := cell_kept k1 hb4
  replace k2 := cell_kept k2 hb4
  replace k3 := cell_kept k3 hb4
  replace kt := kt.below hb4
  replace kb := bt kb hb4
  clear hb4
  go_wp2_with fail
  go_region_held3 (fun w' => w'.cell? ⟨w.heap.size, 0, none⟩ = some (.bool p) ∧ w'.cell? ⟨w.heap.size, 1, none⟩ = some (.slice A n c) ∧ w'.cell? ⟨w.heap.size + 1, 0, none⟩ = some (.bool q) ∧ w'.cell? ⟨w.heap.size + 1, 1, none⟩ = some (.slice D n' d) ∧ Two w' r ∧ Below w.heap.size w w')
    (first | (exact ⟨k0, k1, k2, k3, kt, kb.drew⟩) | (go_split_ands; exact kept4 (by assumption) (by assumption) (by assumption) (by assumption) (by assumption) (by assumption) hbc) | (go_split_ands; exact put4 _ _ (by assumption) (by assumption) (by assumption) (by assumption) (by assumption) (by assumption) hr3 hr1 hr1 hr2 hr2))
    (first | (go_at_call 19; go_split_ands; refine (signedOf_any _ _ _ _ _).mono ?_; rintro e w5 ⟨rfl, hbc⟩) | (go_at_call 24; go_split_ands; refine (HS.out _ (HR.out _ (by assumption)).1 (HR.out _ (by assumption)).2).mono ?_; rintro e w5 ⟨A5, c5, rfl, hc5, hO5, hbc⟩; replace hO5 := hO5.more (Two.lt (by assumption))) | (go_at_call 21; go_split_ands; refine (HB.out _ _ _ _ hc5 hO5).mono ?_; rintro e w6 ⟨A7, c7, rfl, hc7, hO7, hbc⟩; obtain ⟨u0, u1, t1, t2, t3, t4⟩ := Two.below (by assumption) hbc))
  all_goals
    have hfin := (‹_ ∧ _ ∧ _ ∧ _ ∧ _ ∧ Below w.heap.size w _›).2.2.2.2.2
    go_wp2
    exact bodyPost_ret (v := .agg #[.bool t, .slice A7 L.length c7]) (by simp [results, Tryz.results10, go_sem, t1, t2]) rfl ⟨A7, c7, rfl, hc7, ((hO7.put (Nat.lt_succ_self _) _).put (Nat.lt_succ_self _) _).more (Nat.le_succ_of_le hr3), hfin⟩

set_option maxHeartbeats 1000000 in
theorem impl_bmul_no (p q : Bool) (l m : List Int) (A D : Option Addr) (n c n' d : Nat) (w : World) (hl : l.length = n) (hm : m.length = n') (hn : n ≤ 9223372036854775807) (hn' : n' ≤ 9223372036854775807) (hk : (okB p l && okB q m) = false) (hA : RdS w A (vi l)) (hD : RdS w D (vi m)) :
    Calls Tryz.prog 10 #[.agg #[.bool p, .slice A n c], .agg #[.bool q, .slice D n' d]] w (MadeB w.heap.size false [] w) := by
  have HK := Lib.hid (fun W h h' => are_big p q l m A D n c n' d W hl hm hn hn' h h')
  rw [hk] at HK
  clear hl hm hk
  go_enter Tryz.func10, Tryz.ntmps10
  go_wp2_with fail
  generalize hW : ((w.alloc (.cells #[.bool p, .slice A n c] 25)).alloc (.cells #[.bool q, .slice D n' d] 25)).alloc (.cells #[.bool false, .slice none 0 0] 25) = W3
  obtain ⟨k0, k1, k2, k3, kt, kb⟩ := boxes3 _ _ _ _ _ _ _ _ _ _ _ hW
  clear hW
  refine (HK.out _ (hA.below kb) (hD.below kb)).mono ?_
  rintro e w4 ⟨rfl, hb4⟩
  obtain ⟨u0, u1, t1, t2, t3, t4⟩ := kt.below hb4
  have kb' := bt kb hb4
  go_wp2
  exact bodyPost_ret (v := .agg #[.bool false, .slice none 0 0]) (by simp [results, Tryz.results10, go_sem, t1, t2]) rfl ⟨none, 0, rfl, Nat.le_refl _, .inl rfl, below_put (below_put kb' (by omega) _) (by omega) _⟩

/-- An integer as a struct of the call's own. -/
def MadeZ (B : Nat) (z : Int) (w : World) (e : Ending) (w' : World) : Prop := MadeB B (zn z) (zm z) w e w'
theorem okB_two {p q : Bool} {l m : List Int} (h : (okB p l && okB q m) = true) : okB p l = true ∧ okB q m = true := by simpa using h
/-- The sum of x and y where only y's sign is turned: also at y = 0, whose sign may then be wrong. -/
theorem plus_neg (x y : Int) : (if plusB (zn x) x.natAbs (!(zn y)) y.natAbs then -((plusN (zn x) x.natAbs (!(zn y)) y.natAbs : Nat) : Int) else (plusN (zn x) x.natAbs (!(zn y)) y.natAbs : Nat)) = x - y := by
  unfold plusB plusN zn
  by_cases hx : x < 0 <;> by_cases hy : y < 0 <;> by_cases hab : x.natAbs < y.natAbs <;> simp [hx, hy, hab] <;> omega

theorem impl_badd (p q : Bool) (l m : List Int) (A D : Option Addr) (n c n' d : Nat) (w : World) (hl : l.length = n) (hm : m.length = n') (hn : n ≤ 9223372036854775807) (hn' : n' ≤ 9223372036854775807) (hA : RdS w A (vi l)) (hD : RdS w D (vi m)) :
    Calls Tryz.prog 7 #[.agg #[.bool p, .slice A n c], .agg #[.bool q, .slice D n' d]] w (MadeZ w.heap.size (binZ (fun x y => czi (x + y)) p l q m) w) := by
  by_cases hk : (okB p l && okB q m) = true
  · obtain ⟨h1, h2⟩ := okB_two hk
    obtain ⟨x, rfl, rfl, hx⟩ := okB_z h1
    obtain ⟨y, rfl, rfl, hy⟩ := okB_z h2
    rw [binZ_yes hx hy]
    rw [zm_length] at hl hm
    have h := impl_badd_yes (zn x) (zn y) x.natAbs y.natAbs A D n c n' d w hl hm (by omega) (by omega) h1 h2 hA hD
    obtain ⟨e1, e2⟩ := cut_zn (plusB (zn x) x.natAbs (zn y) y.natAbs) (plusN (zn x) x.natAbs (zn y) y.natAbs)
    rw [plus_z] at e1 e2
    unfold MadeZ
    rw [← e1, ← e2]
    exact h
  · have hk' : (okB p l && okB q m) = false := by simpa using hk
    rw [binZ_no hk']
    unfold MadeZ
    rw [zn_zero, zm_zero]
    exact impl_badd_no p q l m A D n c n' d w hl hm hn hn' hk' hA hD

theorem impl_bsub (p q : Bool) (l m : List Int) (A D : Option Addr) (n c n' d : Nat) (w : World) (hl : l.length = n) (hm : m.length = n') (hn : n ≤ 9223372036854775807) (hn' : n' ≤ 9223372036854775807) (hA : RdS w A (vi l)) (hD : RdS w D (vi m)) :
    Calls Tryz.prog 9 #[.agg #[.bool p, .slice A n c], .agg #[.bool q, .slice D n' d]] w (MadeZ w.heap.size (binZ (fun x y => czi (x - y)) p l q m) w) := by
  by_cases hk : (okB p l && okB q m) = true
  · obtain ⟨h1, h2⟩ := okB_two hk
    obtain ⟨x, rfl, rfl, hx⟩ := okB_z h1
    obtain ⟨y, rfl, rfl, hy⟩ := okB_z h2
    rw [binZ_yes hx hy]
    rw [zm_length] at hl hm
    have h := impl_bsub_yes (zn x) (zn y) x.natAbs y.natAbs A D n c n' d w hl hm (by omega) (by omega) h1 h2 hA hD
    obtain ⟨e1, e2⟩ := cut_zn (plusB (zn x) x.natAbs (!(zn y)) y.natAbs) (plusN (zn x) x.natAbs (!(zn y)) y.natAbs)
    rw [plus_neg] at e1 e2
    unfold MadeZ
    rw [← e1, ← e2]
    exact h
  · have hk' : (okB p l && okB q m) = false := by simpa using hk
    rw [binZ_no hk']
    unfold MadeZ
    rw [zn_zero, zm_zero]
    exact impl_bsub_no p q l m A D n c n' d w hl hm hn hn' hk' hA hD

theorem impl_bmul (p q : Bool) (l m : List Int) (A D : Option Addr) (n c n' d : Nat) (w : World) (hl : l.length = n) (hm : m.length = n') (hn : n ≤ 9223372036854775807) (hn' : n' ≤ 9223372036854775807) (hA : RdS w A (vi l)) (hD : RdS w D (vi m)) :
    Calls Tryz.prog 10 #[.agg #[.bool p, .slice A n c], .agg #[.bool q, .slice D n' d]] w (MadeZ w.heap.size (binZ (fun x y => czi (x * y)) p l q m) w) := by
  by_cases hk : (okB p l && okB q m) = true
  · obtain ⟨h1, h2⟩ := okB_two hk
    obtain ⟨x, rfl, rfl, hx⟩ := okB_z h1
    obtain ⟨y, rfl, rfl, hy⟩ := okB_z h2
    rw [binZ_yes hx hy]
    rw [zm_length] at hl hm
    have h := impl_bmul_yes (zn x) (zn y) x.natAbs y.natAbs A D n c n' d w hl hm (by omega) (by omega) h1 h2 hA hD
    obtain ⟨e1, e2⟩ := cut_zn (!(zn x == zn y)) (x.natAbs * y.natAbs)
    rw [times_z] at e1 e2
    unfold MadeZ
    rw [← e1, ← e2]
    exact h
  · have hk' : (okB p l && okB q m) = false := by simpa using hk
    rw [binZ_no hk']
    unfold MadeZ
    rw [zn_zero, zm_zero]
    exact impl_bmul_no p q l m A D n c n' d w hl hm hn hn' hk' hA hD
end Go.Proofs.YtmmgcdfifcbabaaGreatDoor
