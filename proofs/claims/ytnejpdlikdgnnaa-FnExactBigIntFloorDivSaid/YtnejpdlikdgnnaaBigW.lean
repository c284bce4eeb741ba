/-
  'BigIntFloorDiv', of the model and of the program.
-/
import Derived.Test.YtnejpdlikdgnnaaBigV
namespace Go.Proofs.Ytnejpdlikdgnnaa
open Go.ChangeShapes Go.WideShapes Go.ChangeAt Go.RowKit
open Go.ChangeMaps (open_string shut_string)
set_option linter.unusedVariables false
set_option linter.unusedSimpArgs false
set_option maxRecDepth 4000

/-- A struct of a sign and a slice, and a slice beside it, all of the call's own. -/
def MadeBS (B : Nat) (s : Bool) (L M : List Int) (w : World) (e : Ending) (w' : World) : Prop :=
  ∃ A c D d, e = .returned (.tuple #[.agg #[.bool s, .slice A L.length c], .slice D M.length d]) ∧ OwnS B w' A (vi L) ∧ OwnS B w' D (vi M) ∧ Below w.heap.size w w' ∧ (∀ g g', rowOf L.length A = some g → rowOf M.length D = some g' → g ≠ g')
/-- The quotient and the remainder of the floor's division. -/
def fdQ (p : Bool) (a b : Nat) : Nat := if p && decide (0 < a % b) then a / b + 1 else a / b
def fdR (p : Bool) (a b : Nat) : Nat := if p && decide (0 < a % b) then b - a % b else a % b
theorem fd_up {a b : Nat} (h : 0 < a % b) : fdQ true a b = a / b + 1 ∧ fdR true a b = b - a % b := by unfold fdQ fdR; rw [decide_eq_true h]; exact ⟨rfl, rfl⟩
theorem fd_pos (a b : Nat) : fdQ false a b = a / b ∧ fdR false a b = a % b := ⟨rfl, rfl⟩
theorem fd_even {p : Bool} {a b : Nat} (h : a % b = 0) : fdQ p a b = a / b ∧ fdR p a b = a % b := by unfold fdQ fdR; rw [decide_eq_false (by omega), Bool.and_false]; exact ⟨rfl, rfl⟩
theorem row_two {B lo hi k n n' : Nat} {w : World} {A D : Option Addr} {M : List Int} (h1 : ∀ g, rowOf n A = some g → lo ≤ g ∧ g < hi) (h2 : OwnS B w D (vi M)) (hB : hi ≤ B) : ∀ g g', rowOf n A = some g → rowOf M.length D = some g' → g ≠ g' := fun g g' e1 e2 => by
  have h3 := h1 g e1
  have h4 := h2.row g' (by rw [vi_length]; exact e2)
  omega
theorem own_in {B n : Nat} {W : World} {A : Option Addr} {l : List Int} (h : OwnS B W A (vi l)) (hn : l.length = n) : ∀ g, rowOf n A = some g → B ≤ g ∧ g < W.heap.size := fun g hg => by
  refine ⟨h.row g (by rw [vi_length, hn]; exact hg), ?_⟩
  rcases h with h | ⟨g', ha, hB, hs, _⟩
  · have : l = [] := by cases l with
      | nil => rfl
      | cons y t => simp [vi] at h
    subst this; subst hn; simp [rowOf] at hg
  · subst ha
    unfold rowOf at hg
    split at hg
    · cases hg
    · simp at hg; omega

set_option maxHeartbeats 1000000 in
theorem spec_fd_pos (a b : Nat) (A D : Option Addr) (n c n' d : Nat) (w : World) (hn : ln a = n) (hn' : ln b = n') (h60 : n ≤ 60) (h60' : n' ≤ 60) (h0 : 0 < n')  (hp : okB false (nd a) = true) (hA : RdS w A (vi (nd a))) (hD : RdS w D (vi (nd b))) :
    Calls Try.prog 33 #[.agg #[.bool false, .slice A n c], .slice D n' d] w (MadeBS w.heap.size (false && decide (cap60 (a / b) ≠ [])) (cap60 (a / b)) (nd (a % b)) w) := by
  have H1 := Lib.hid (fun W h => spec_bok false (nd a) A n c W (by rw [nd_length, hn]) (by omega) h)
  have H2 := Lib.hid (fun W h => spec_ok (nd b) D n' d W (by rw [nd_length, hn']) (by omega) h)
  rw [hp] at H1
  rw [nd_ok (by omega)] at H2
  have HR : Hid (∀ W, Below w.heap.size w W → RdS W A (vi (nd a)) ∧ RdS W D (vi (nd b))) := Lib.hid (fun W hb => ⟨hA.below hb, hD.below hb⟩)
  have HD := Lib.hid (fun W h h' => spec_div_any a b A D n c n' d W hn hn' h60 h60' h0 h h')
  have hz : ((n' : Int) == 0) = false := by rw [beq_eq_false_iff_ne]; omega
  have hq60 : ln (a / b) ≤ 60 := by have := ln_mono (Nat.div_le_self a b); omega
  have HM := Lib.hid (fun A c W (h1 : (nd (a / b)).length ≤ c) (h2 : RdS W A (vi (nd (a / b)))) => make_rd false (a / b) (nd (a / b)).length c A W (by rw [nd_length]) (by rw [nd_length]; omega) h1 h2)
  have ht : True := trivial
  clear hn hn' hA hD hp hq60
  generalize cap60 (a / b) = L at HM ⊢
  generalize (false && decide (L ≠ [])) = t at HM ⊢
  generalize nd (a / b) = Q at HD HM
  generalize nd (a % b) = M at HD HM ⊢
  go_enter Try.func33, Try.ntmps33
  go_wp2_with fail
  generalize hW : (w.alloc (.cells #[.bool false, .slice A n c] 27)).alloc (.cells #[.bool false, .slice none 0 0] 27) = W3
  obtain ⟨k0, k1, kt, kb⟩ := boxes2 _ _ _ _ _ _ _ _ hW
  clear hW
  obtain ⟨r, hr⟩ : ∃ r, r = w.heap.size + 1 := ⟨_, rfl⟩
  rw [← hr] at kt ⊢
  have hr3 : w.heap.size ≤ r := by omega
  clear hr
  refine (H1.out _ (HR.out _ kb).1).mono ?_
  rintro e w4 ⟨rfl, hb4⟩
  replace k0 := cell_kept k0 hb4
  replace k1 := cell_kept k1 hb4
  replace kt := kt.below hb4
  replace kb := bt kb hb4
  clear hb4
  go_wp2_with fail
  refine (H2.out _ (HR.out _ kb).2).mono ?_
  rintro e w4 ⟨rfl, rfl⟩
  go_wp2_with fail
  have hr4 := kt.lt
  refine (HD.out _ (HR.out _ kb).1 (HR.out _ kb).2).mono ?_
  rintro e w5 ⟨A5, c5, A9, c9, rfl, hc5, hO5, hO9, hb5⟩
  have hw5 := kb.size
  replace k0 := cell_kept k0 hb5
  replace k1 := cell_kept k1 hb5
  replace kt := kt.below hb5
  replace kb := bt kb hb5
  clear hb5
  go_wp2_with fail
  refine (HM.out _ _ _ hc5 hO5.rd).mono ?_
  rintro e w6 ⟨A7, c7, rfl, hc7, hO7, hb6⟩
  have hlt := kt.lt
  have in9 := own_in hO9 rfl
  have in7 := own_in hO7 rfl
  replace hO9 := hO9.below hb6
  obtain ⟨u0, u1, t1, t2, t3, t4⟩ := kt.below hb6
  have hlt4 : r < w4.heap.size := hr4
  replace kb := bt kb hb6
  go_wp2
  exact bodyPost_ret (v := .tuple #[.agg #[.bool t, .slice A7 L.length c7], .slice A9 M.length c9]) (by simp [results, Try.results33, go_sem, t1, t2]) rfl ⟨A7, c7, A9, c9, rfl, ((hO7.put hlt _).put hlt _).more (by omega), ((hO9.put hr4 _).put hr4 _).more hw5, below_put (below_put kb hr3 _) hr3 _, fun g g' e1 e2 => by have h1 := in7 g e1; have h2 := in9 g' e2; omega⟩

set_option maxHeartbeats 1000000 in
theorem spec_fd_even (a b : Nat) (A D : Option Addr) (n c n' d : Nat) (w : World) (hn : ln a = n) (hn' : ln b = n') (h60 : n ≤ 60) (h60' : n' ≤ 60) (h0 : 0 < n') (hm : a % b = 0) (hp : okB true (nd a) = true) (hA : RdS w A (vi (nd a))) (hD : RdS w D (vi (nd b))) :
    Calls Try.prog 33 #[.agg #[.bool true, .slice A n c], .slice D n' d] w (MadeBS w.heap.size (true && decide (cap60 (a / b) ≠ [])) (cap60 (a / b)) (nd (a % b)) w) := by
  have H1 := Lib.hid (fun W h => spec_bok true (nd a) A n c W (by rw [nd_length, hn]) (by omega) h)
  have H2 := Lib.hid (fun W h => spec_ok (nd b) D n' d W (by rw [nd_length, hn']) (by omega) h)
  rw [hp] at H1
  rw [nd_ok (by omega)] at H2
  have HR : Hid (∀ W, Below w.heap.size w W → RdS W A (vi (nd a)) ∧ RdS W D (vi (nd b))) := Lib.hid (fun W hb => ⟨hA.below hb, hD.below hb⟩)
  have HD := Lib.hid (fun W h h' => spec_div_any a b A D n c n' d W hn hn' h60 h60' h0 h h')
  have hz : ((n' : Int) == 0) = false := by rw [beq_eq_false_iff_ne]; omega
  have hq60 : ln (a / b) ≤ 60 := by have := ln_mono (Nat.div_le_self a b); omega
  have HM := Lib.hid (fun A c W (h1 : (nd (a / b)).length ≤ c) (h2 : RdS W A (vi (nd (a / b)))) => make_rd true (a / b) (nd (a / b)).length c A W (by rw [nd_length]) (by rw [nd_length]; omega) h1 h2)
  have ht : ¬ 0 < (nd (a % b)).length := by rw [hm, nd_zero]; simp
  clear hn hn' hA hD hp hq60
  generalize cap60 (a / b) = L at HM ⊢
  generalize (true && decide (L ≠ [])) = t at HM ⊢
  generalize nd (a / b) = Q at HD HM
  generalize nd (a % b) = M at HD HM ht ⊢
  go_enter Try.func33, Try.ntmps33
  go_wp2_with fail
  generalize hW : (w.alloc (.cells #[.bool true, .slice A n c] 27)).alloc (.cells #[.bool false, .slice none 0 0] 27) = W3
  obtain ⟨k0, k1, kt, kb⟩ := boxes2 _ _ _ _ _ _ _ _ hW
  clear hW
  obtain ⟨r, hr⟩ : ∃ r, r = w.heap.size + 1 := ⟨_, rfl⟩
  rw [← hr] at kt ⊢
  have hr3 : w.heap.size ≤ r := by omega
  clear hr
  refine (H1.out _ (HR.out _ kb).1).mono ?_
  rintro e w4 ⟨rfl, hb4⟩
  replace k0 := cell_kept k0 hb4
  replace k1 := cell_kept k1 hb4
  replace kt := kt.below hb4
  replace kb := bt kb hb4
  clear hb4
  go_wp2_with fail
  refine (H2.out _ (HR.out _ kb).2).mono ?_
  rintro e w4 ⟨rfl, rfl⟩
  go_wp2_with fail
  have hr4 := kt.lt
  refine (HD.out _ (HR.out _ kb).1 (HR.out _ kb).2).mono ?_
  rintro e w5 ⟨A5, c5, A9, c9, rfl, hc5, hO5, hO9, hb5⟩
  have hw5 := kb.size
  replace k0 := cell_kept k0 hb5
  replace k1 := cell_kept k1 hb5
  replace kt := kt.below hb5
  replace kb := bt kb hb5
  clear hb5
  go_wp2_with fail
  refine (HM.out _ _ _ hc5 hO5.rd).mono ?_
  rintro e w6 ⟨A7, c7, rfl, hc7, hO7, hb6⟩
  have hlt := kt.lt
  have in9 := own_in hO9 rfl
  have in7 := own_in hO7 rfl
  replace hO9 := hO9.below hb6
  obtain ⟨u0, u1, t1, t2, t3, t4⟩ := kt.below hb6
  have hlt4 : r < w4.heap.size := hr4
  replace kb := bt kb hb6
  go_wp2
  exact bodyPost_ret (v := .tuple #[.agg #[.bool t, .slice A7 L.length c7], .slice A9 M.length c9]) (by simp [results, Try.results33, go_sem, t1, t2]) rfl ⟨A7, c7, A9, c9, rfl, ((hO7.put hlt _).put hlt _).more (by omega), ((hO9.put hr4 _).put hr4 _).more hw5, below_put (below_put kb hr3 _) hr3 _, fun g g' e1 e2 => by have h1 := in7 g e1; have h2 := in9 g' e2; omega⟩

set_option maxHeartbeats 1000000 in
theorem spec_fd_up (a b : Nat) (A D : Option Addr) (n c n' d : Nat) (w : World) (hn : ln a = n) (hn' : ln b = n') (h60 : n ≤ 60) (h60' : n' ≤ 60) (h0 : 0 < n') (hm : 0 < a % b) (hp : okB true (nd a) = true) (hA : RdS w A (vi (nd a))) (hD : RdS w D (vi (nd b))) :
    Calls Try.prog 33 #[.agg #[.bool true, .slice A n c], .slice D n' d] w (MadeBS w.heap.size (true && decide (cap60 (a / b + 1) ≠ [])) (cap60 (a / b + 1)) (nd (b - a % b)) w) := by
  have H1 := Lib.hid (fun W h => spec_bok true (nd a) A n c W (by rw [nd_length, hn]) (by omega) h)
  have H2 := Lib.hid (fun W h => spec_ok (nd b) D n' d W (by rw [nd_length, hn']) (by omega) h)
  rw [hp] at H1
  rw [nd_ok (by omega)] at H2
  have HR : Hid (∀ W, Below w.heap.size w W → RdS W A (vi (nd a)) ∧ RdS W D (vi (nd b))) := Lib.hid (fun W hb => ⟨hA.below hb, hD.below hb⟩)
  have HD := Lib.hid (fun W h h' => spec_div_any a b A D n c n' d W hn hn' h60 h60' h0 h h')
  have hz : ((n' : Int) == 0) = false := by rw [beq_eq_false_iff_ne]; omega
  have hb0 : 0 < b := by rcases Nat.eq_zero_or_pos b with h | h; (subst h; rw [ln_zero] at hn'; omega); exact h
  have hq60 : ln (a / b) ≤ 60 := by have := ln_mono (Nat.div_le_self a b); omega
  have hrb : a % b ≤ b := Nat.le_of_lt (Nat.mod_lt _ hb0)
  have hr60 : ln (a % b) ≤ 60 := by have := ln_mono hrb; omega
  have n1 : nd 1 = [1] ∧ ln 1 = 1 := by
    have h : ln 1 = 1 := by rw [ln_pos (by decide), show 1 / 1000000000 = 0 by decide, ln_zero]
    refine ⟨?_, h⟩
    unfold nd
    rw [h]
    decide
  have HAd := Lib.hid (fun A c g W (h1 : RdS W A (vi (nd (a / b)))) (h2 : RdS W (some ⟨g, 0, none⟩) (vi [1])) => spec_l02Add (a / b) 1 A (some ⟨g, 0, none⟩) (nd (a / b)).length c 1 1 W (by rw [nd_length]) n1.2 (by rw [nd_length]; exact hq60) (by omega) h1 (by rw [n1.1]; exact h2))
  have HM := Lib.hid (fun B K A c W (h1 : K ≤ c) (h2 : K ≤ 1048576) (h3 : ln (a / b + 1) ≤ K) (h4 : OwnS B W A (vi (row K ((a / b + 1 : Nat) : Int)))) => make_row true B (a / b + 1) K c A W h3 h2 h1 h4)
  have HSu := Lib.hid (fun A c W h (h2 : RdS W A (vi (nd (a % b)))) => spec_l02Sub b (a % b) D A n' d (nd (a % b)).length c W hn' (by rw [nd_length]) hrb (by omega) (by rw [nd_length]; omega) h h2)
  have ht : 0 < (nd (a % b)).length := by
    rw [nd_length]
    rcases Nat.eq_zero_or_pos (ln (a % b)) with h | h
    · have := ln_eq_zero.1 h; omega
    · exact h
  clear hn hn' hA hD hp hq60 hrb hr60 n1 hm
  generalize cap60 (a / b + 1) = L at HM ⊢
  generalize (true && decide (L ≠ [])) = t at HM ⊢
  generalize nd (a / b) = Q at HD HAd
  generalize nd (a % b) = R at HD HSu ht
  generalize nd (b - a % b) = M at HSu ⊢
  go_enter Try.func33, Try.ntmps33
  go_wp2_with fail
  generalize hW : (w.alloc (.cells #[.bool true, .slice A n c] 27)).alloc (.cells #[.bool false, .slice none 0 0] 27) = W3
  obtain ⟨k0, k1, kt, kb⟩ := boxes2 _ _ _ _ _ _ _ _ hW
  clear hW
  obtain ⟨r, hr⟩ : ∃ r, r = w.heap.size + 1 := ⟨_, rfl⟩
  rw [← hr] at kt ⊢
  have hr3 : w.heap.size ≤ r := by omega
  clear hr
  refine (H1.out _ (HR.out _ kb).1).mono ?_
  rintro e w4 ⟨rfl, hb4⟩
  replace k0 := cell_kept k0 hb4
  replace k1 := cell_kept k1 hb4
  replace kt := kt.below hb4
  replace kb := bt kb hb4
  clear hb4
  go_wp2_with fail
  refine (H2.out _ (HR.out _ kb).2).mono ?_
  rintro e w4 ⟨rfl, rfl⟩
  go_wp2_with fail
  have hr4 := kt.lt
  refine (HD.out _ (HR.out _ kb).1 (HR.out _ kb).2).mono ?_
  rintro e w5 ⟨A5, c5, A6, c6, rfl, hc5, hO5, hO6, hb5⟩
  have hw5 := kb.size
  replace k0 := cell_kept k0 hb5
  replace k1 := cell_kept k1 hb5
  replace kt := kt.below hb5
  replace kb := bt kb hb5
  clear hb5
  go_wp2_with fail
  have hlit : Blk (w5.alloc (.cells #[.int .i64 1] 3)) w5.heap.size [1] := heap_alloc_new w5 _
  have hal := ba1 w5 (.cells #[.int .i64 1] 3)
  refine (HAd.out _ _ _ _ (hO5.below hal).rd (hlit.own (Nat.le_refl _)).rd).mono ?_
  rintro e w6 ⟨A7, c7, K7, rfl, hc7, hcm7, hK7, hT7, hO7, hb6⟩
  have hal6 := hal.trans (hb6.mono (by rw [sz1]; omega))
  replace hO6 := hO6.below hal6
  replace k0 := cell_kept k0 hal6
  replace k1 := cell_kept k1 hal6
  replace kt := kt.below hal6
  replace kb := bt kb hal6
  clear hal6
  go_wp2_with fail
  refine (HM.out _ _ _ _ _ hc7 hK7 hT7 hO7).mono ?_
  rintro e w7 ⟨A7, c7, rfl, hc7, hO7, hb7⟩
  have hw7 := kb.size
  replace hO6 := hO6.below hb7
  have hlt7 := kt.lt
  replace k0 := cell_kept k0 hb7
  replace k1 := cell_kept k1 hb7
  replace kt := kt.below hb7
  replace kb := bt kb hb7
  clear hb7
  go_wp2_with fail
  refine (HSu.out _ _ _ (HR.out _ kb).2 hO6.rd).mono ?_
  rintro e w8 ⟨A9, c9, rfl, hc9, hO9, hb8⟩
  have hw8 := kb.size
  have hlt8 := kt.lt
  have in7 := own_in hO7 rfl
  have in9 := own_in hO9 rfl
  replace hO7 := hO7.below hb8
  obtain ⟨u0, u1, t1, t2, t3, t4⟩ := kt.below hb8
  replace kb := bt kb hb8
  go_wp2
  exact bodyPost_ret (v := .tuple #[.agg #[.bool t, .slice A7 L.length c7], .slice A9 M.length c9]) (by simp [results, Try.results33, go_sem, t1, t2]) rfl ⟨A7, c7, A9, c9, rfl, ((hO7.put hlt7 _).put hlt7 _).more hw7, ((hO9.put hlt8 _).put hlt8 _).more hw8, below_put (below_put kb hr3 _) hr3 _, fun g g' e1 e2 => by have h1 := in7 g e1; have h2 := in9 g' e2; omega⟩

/-- 'bigInt', and that its slice is the one that came in. -/
def MadeBA (B : Nat) (A0 : Option Addr) (p : Bool) (L : List Int) (w : World) (e : Ending) (w' : World) : Prop :=
  ∃ A c, e = .returned (.agg #[.bool p, .slice A L.length c]) ∧ L.length ≤ c ∧ OwnS B w' A (vi L) ∧ Below w.heap.size w w' ∧ (∀ g, rowOf L.length A = some g → rowOf L.length A0 = some g)
set_option maxHeartbeats 800000 in
theorem bigInt_at (B : Nat) (p : Bool) (L : List Int) (A : Option Addr) (n c : Nat) (w : World) (hn : L.length = n) (h6 : n ≤ 1048576) (hc : n ≤ c) (ho : OwnS B w A (vi L)) :
    Calls Try.prog 47 #[.agg #[.bool p, .slice A n c]] w (MadeBA B A (p && decide (L ≠ [])) L w) := by
  have H := fun W => Lib.hid (isZero_any A n c W h6)
  by_cases h0 : n = 0
  · have hL : L = [] := List.eq_nil_of_length_eq_zero (hn.trans h0)
    subst hL
    have hd : decide (n = 0) = true := decide_eq_true h0
    rw [hd] at H
    rw [show (p && decide (([] : List Int) ≠ [])) = false by simp]
    clear hn h0 hd ho
    go_enter Try.func47, Try.ntmps47
    go_wp2_with fail
    refine (H _).out.mono ?_
    rintro e w1 ⟨rfl, rfl⟩
    go_wp2
    exact bodyPost_ret (v := .agg #[.bool false, .slice none 0 0]) (by simp [results, Try.results47, go_sem]) rfl ⟨none, 0, rfl, Nat.le_refl _, .inl rfl, ba2 _ _ _, fun g hg => by simp [rowOf] at hg⟩
  · have hd : decide (n = 0) = false := decide_eq_false h0
    rw [hd] at H
    have hL : decide (L ≠ []) = true := decide_eq_true (by rintro rfl; exact h0 hn.symm)
    rw [hL, Bool.and_true]
    have HN := Lib.hid hn
    clear hn h0 hd hL
    go_enter Try.func47, Try.ntmps47
    go_wp2_with fail
    refine (H _).out.mono ?_
    rintro e w1 ⟨rfl, rfl⟩
    go_wp2
    exact bodyPost_ret (v := .agg #[.bool p, .slice A n c]) (by simp [results, Try.results47, go_sem]) rfl ⟨A, c, by rw [HN.out], by rw [HN.out]; exact hc, ho.below (ba2 _ _ _), ba2 _ _ _, fun g hg => hg⟩

set_option maxHeartbeats 1000000 in
theorem impl_fd_pos (a b : Nat) (A D : Option Addr) (n c n' d : Nat) (w : World) (hn : ln a = n) (hn' : ln b = n') (h60 : n ≤ 60) (h60' : n' ≤ 60) (h0 : 0 < n')  (hp : okB false (nd a) = true) (hA : RdS w A (vi (nd a))) (hD : RdS w D (vi (nd b))) :
    Calls Try.prog 35 #[.agg #[.bool false, .slice A n c], .slice D n' d] w (MadeBS w.heap.size (false && decide (cap60 (a / b) ≠ [])) (cap60 (a / b)) (nd (a % b)) w) := by
  have H1 := Lib.hid (fun W h => impl_bok false (nd a) A n c W (by rw [nd_length, hn]) (by omega) h)
  have H2 := Lib.hid (fun W h => impl_ok (nd b) D n' d W (by rw [nd_length, hn']) (by omega) h)
  rw [hp] at H1
  rw [nd_ok (by omega)] at H2
  have HR : Hid (∀ W, Below w.heap.size w W → RdS W A (vi (nd a)) ∧ RdS W D (vi (nd b))) := Lib.hid (fun W hb => ⟨hA.below hb, hD.below hb⟩)
  have HD := Lib.hid (fun W h h' => impl_div a b A D n c n' d W hn hn' h60 h60' h0 h h')
  have hz : ((n' : Int) == 0) = false := by rw [beq_eq_false_iff_ne]; omega
  have hq60 : ln (a / b) ≤ 60 := by have := ln_mono (Nat.div_le_self a b); omega
  have hL : (nd (a / b)).length ≤ 1048576 := by rw [nd_length]; omega
  rw [cap60_yes' hq60]
  clear hn hn' hA hD hp hq60
  generalize nd (a / b) = L at HD hL ⊢
  have HB := Lib.hid (fun B A c W (hc : L.length ≤ c) (ho : OwnS B W A (vi L)) => bigInt_at B false L A L.length c W rfl hL hc ho)
  generalize (false && decide (L ≠ [])) = t at HB ⊢
  generalize nd (a % b) = M at HD ⊢
  go_enter Try.func35, Try.ntmps35
  go_wp2_with fail
  generalize hW : (w.alloc (.cells #[.bool false, .slice A n c] 27)).alloc (.cells #[.bool false, .slice none 0 0] 27) = W3
  obtain ⟨k0, k1, kt, kb⟩ := boxes2 _ _ _ _ _ _ _ _ hW
  clear hW
  obtain ⟨r, hr⟩ : ∃ r, r = w.heap.size + 1 := ⟨_, rfl⟩
  rw [← hr] at kt ⊢
  have hr3 : w.heap.size ≤ r := by omega
  clear hr
  refine (H1.out _ (HR.out _ kb).1).mono ?_
  rintro e w4 ⟨rfl, hb4⟩
  replace k0 := cell_kept k0 hb4
  replace k1 := cell_kept k1 hb4
  replace kt := kt.below hb4
  replace kb := bt kb hb4
  clear hb4
  go_wp2_with fail
  refine (H2.out _ (HR.out _ kb).2).mono ?_
  rintro e w4 ⟨rfl, rfl⟩
  go_wp2_with fail
  have hr4 := kt.lt
  refine (HD.out _ (HR.out _ kb).1 (HR.out _ kb).2).mono ?_
  rintro e w5 ⟨A5, c5, A9, c9, rfl, hc5, hc9, hO5, hO9, hb5, hdis0⟩
  have hdis := Lib.hid hdis0
  clear hdis0
  have hw5 := kb.size
  replace k0 := cell_kept k0 hb5
  replace k1 := cell_kept k1 hb5
  replace kt := kt.below hb5
  replace kb := bt kb hb5
  clear hb5
  go_wp2_with fail
  refine (HB.out _ _ _ _ hc5 hO5).mono ?_
  rintro e w6 ⟨A7, c7, rfl, hc7, hO7, hb6, hsame0⟩
  have hsame := Lib.hid hsame0
  clear hsame0
  replace hO9 := hO9.below hb6
  obtain ⟨u0, u1, t1, t2, t3, t4⟩ := kt.below hb6
  replace kb := bt kb hb6
  go_wp2
  exact bodyPost_ret (v := .tuple #[.agg #[.bool t, .slice A7 L.length c7], .slice A9 M.length c9]) (by simp [results, Try.results35, go_sem, t1, t2]) rfl ⟨A7, c7, A9, c9, rfl, ((hO7.put hr4 _).put hr4 _).more hw5, ((hO9.put hr4 _).put hr4 _).more hw5, below_put (below_put kb hr3 _) hr3 _, fun g g' e1 e2 => hdis.out g g' (hsame.out g e1) e2⟩

set_option maxHeartbeats 1000000 in
theorem impl_fd_even (a b : Nat) (A D : Option Addr) (n c n' d : Nat) (w : World) (hn : ln a = n) (hn' : ln b = n') (h60 : n ≤ 60) (h60' : n' ≤ 60) (h0 : 0 < n') (hm : a % b = 0) (hp : okB true (nd a) = true) (hA : RdS w A (vi (nd a))) (hD : RdS w D (vi (nd b))) :
    Calls Try.prog 35 #[.agg #[.bool true, .slice A n c], .slice D n' d] w (MadeBS w.heap.size (true && decide (cap60 (a / b) ≠ [])) (cap60 (a / b)) (nd (a % b)) w) := by
  have H1 := Lib.hid (fun W h => impl_bok true (nd a) A n c W (by rw [nd_length, hn]) (by omega) h)
  have H2 := Lib.hid (fun W h => impl_ok (nd b) D n' d W (by rw [nd_length, hn']) (by omega) h)
  rw [hp] at H1
  rw [nd_ok (by omega)] at H2
  have HR : Hid (∀ W, Below w.heap.size w W → RdS W A (vi (nd a)) ∧ RdS W D (vi (nd b))) := Lib.hid (fun W hb => ⟨hA.below hb, hD.below hb⟩)
  have HD := Lib.hid (fun W h h' => impl_div a b A D n c n' d W hn hn' h60 h60' h0 h h')
  have hz : ((n' : Int) == 0) = false := by rw [beq_eq_false_iff_ne]; omega
  have hq60 : ln (a / b) ≤ 60 := by have := ln_mono (Nat.div_le_self a b); omega
  have hL : (nd (a / b)).length ≤ 1048576 := by rw [nd_length]; omega
  have ht : ¬ 0 < (nd (a % b)).length := by rw [hm, nd_zero]; simp
  rw [cap60_yes' hq60]
  clear hn hn' hA hD hp hq60
  generalize nd (a / b) = L at HD hL ⊢
  have HB := Lib.hid (fun B A c W (hc : L.length ≤ c) (ho : OwnS B W A (vi L)) => bigInt_at B true L A L.length c W rfl hL hc ho)
  generalize (true && decide (L ≠ [])) = t at HB ⊢
  generalize nd (a % b) = M at HD ht ⊢
  go_enter Try.func35, Try.ntmps35
  go_wp2_with fail
  generalize hW : (w.alloc (.cells #[.bool true, .slice A n c] 27)).alloc (.cells #[.bool false, .slice none 0 0] 27) = W3
  obtain ⟨k0, k1, kt, kb⟩ := boxes2 _ _ _ _ _ _ _ _ hW
  clear hW
  obtain ⟨r, hr⟩ : ∃ r, r = w.heap.size + 1 := ⟨_, rfl⟩
  rw [← hr] at kt ⊢
  have hr3 : w.heap.size ≤ r := by omega
  clear hr
  refine (H1.out _ (HR.out _ kb).1).mono ?_
  rintro e w4 ⟨rfl, hb4⟩
  replace k0 := cell_kept k0 hb4
  replace k1 := cell_kept k1 hb4
  replace kt := kt.below hb4
  replace kb := bt kb hb4
  clear hb4
  go_wp2_with fail
  refine (H2.out _ (HR.out _ kb).2).mono ?_
  rintro e w4 ⟨rfl, rfl⟩
  go_wp2_with fail
  have hr4 := kt.lt
  refine (HD.out _ (HR.out _ kb).1 (HR.out _ kb).2).mono ?_
  rintro e w5 ⟨A5, c5, A9, c9, rfl, hc5, hc9, hO5, hO9, hb5, hdis0⟩
  have hdis := Lib.hid hdis0
  clear hdis0
  have hw5 := kb.size
  replace k0 := cell_kept k0 hb5
  replace k1 := cell_kept k1 hb5
  replace kt := kt.below hb5
  replace kb := bt kb hb5
  clear hb5
  go_wp2_with fail
  refine (HB.out _ _ _ _ hc5 hO5).mono ?_
  rintro e w6 ⟨A7, c7, rfl, hc7, hO7, hb6, hsame0⟩
  have hsame := Lib.hid hsame0
  clear hsame0
  replace hO9 := hO9.below hb6
  obtain ⟨u0, u1, t1, t2, t3, t4⟩ := kt.below hb6
  replace kb := bt kb hb6
  go_wp2
  exact bodyPost_ret (v := .tuple #[.agg #[.bool t, .slice A7 L.length c7], .slice A9 M.length c9]) (by simp [results, Try.results35, go_sem, t1, t2]) rfl ⟨A7, c7, A9, c9, rfl, ((hO7.put hr4 _).put hr4 _).more hw5, ((hO9.put hr4 _).put hr4 _).more hw5, below_put (below_put kb hr3 _) hr3 _, fun g g' e1 e2 => hdis.out g g' (hsame.out g e1) e2⟩

set_option maxHeartbeats 1000000 in
theorem impl_fd_up (a b : Nat) (A D : Option Addr) (n c n' d : Nat) (w : World) (hn : ln a = n) (hn' : ln b = n') (h60 : n ≤ 60) (h60' : n' ≤ 60) (h0 : 0 < n') (hm : 0 < a % b) (hp : okB true (nd a) = true) (hA : RdS w A (vi (nd a))) (hD : RdS w D (vi (nd b))) :
    Calls Try.prog 35 #[.agg #[.bool true, .slice A n c], .slice D n' d] w (MadeBS w.heap.size (true && decide (cap60 (a / b + 1) ≠ [])) (cap60 (a / b + 1)) (nd (b - a % b)) w) := by
  have H1 := Lib.hid (fun W h => impl_bok true (nd a) A n c W (by rw [nd_length, hn]) (by omega) h)
  have H2 := Lib.hid (fun W h => impl_ok (nd b) D n' d W (by rw [nd_length, hn']) (by omega) h)
  rw [hp] at H1
  rw [nd_ok (by omega)] at H2
  have HR : Hid (∀ W, Below w.heap.size w W → RdS W A (vi (nd a)) ∧ RdS W D (vi (nd b))) := Lib.hid (fun W hb => ⟨hA.below hb, hD.below hb⟩)
  have HD := Lib.hid (fun W h h' => impl_div a b A D n c n' d W hn hn' h60 h60' h0 h h')
  have hz : ((n' : Int) == 0) = false := by rw [beq_eq_false_iff_ne]; omega
  have hb0 : 0 < b := by rcases Nat.eq_zero_or_pos b with h | h; (subst h; rw [ln_zero] at hn'; omega); exact h
  have hq60 : ln (a / b) ≤ 60 := by have := ln_mono (Nat.div_le_self a b); omega
  have hrb : a % b ≤ b := Nat.le_of_lt (Nat.mod_lt _ hb0)
  have hr60 : ln (a % b) ≤ 60 := by have := ln_mono hrb; omega
  have n1 : ln 1 = 1 := by rw [ln_pos (by decide), show 1 / 1000000000 = 0 by decide, ln_zero]
  have HO := Lib.hid (fun W => impl_natOf_int 1 W (by omega))
  rw [show (1 : Int).toNat = 1 by decide] at HO
  have HAd := Lib.hid (fun A c D c' W (h1 : RdS W A (vi (nd (a / b)))) (h2 : RdS W D (vi (nd 1))) => impl_add (a / b) 1 A D (nd (a / b)).length c (nd 1).length c' W (by rw [nd_length]) (by rw [nd_length]) (by rw [nd_length]; exact hq60) (by rw [nd_length]; omega) h1 h2)
  have HSu := Lib.hid (fun A c W h (h2 : RdS W A (vi (nd (a % b)))) => impl_sub b (a % b) D A n' d (nd (a % b)).length c W hn' (by rw [nd_length]) (by omega) (by rw [nd_length]; omega) h h2)
  rw [if_pos hrb] at HSu
  have hL : (cap60 (a / b + 1)).length ≤ 1048576 := by have := cap60_len' (a / b + 1); omega
  have ht : 0 < (nd (a % b)).length := by
    rw [nd_length]
    rcases Nat.eq_zero_or_pos (ln (a % b)) with h | h
    · have := ln_eq_zero.1 h; omega
    · exact h
  clear hn hn' hA hD hp hq60 hrb hr60 n1 hm
  generalize cap60 (a / b + 1) = L at HAd hL ⊢
  have HB := Lib.hid (fun B A c W (hc : L.length ≤ c) (ho : OwnS B W A (vi L)) => bigInt_at B true L A L.length c W rfl hL hc ho)
  generalize (true && decide (L ≠ [])) = t at HB ⊢
  generalize nd (a / b) = Q at HD HAd
  generalize nd 1 = J at HO HAd
  generalize nd (a % b) = R at HD HSu ht
  generalize nd (b - a % b) = M at HSu ⊢
  go_enter Try.func35, Try.ntmps35
  go_wp2_with fail
  generalize hW : (w.alloc (.cells #[.bool true, .slice A n c] 27)).alloc (.cells #[.bool false, .slice none 0 0] 27) = W3
  obtain ⟨k0, k1, kt, kb⟩ := boxes2 _ _ _ _ _ _ _ _ hW
  clear hW
  obtain ⟨r, hr⟩ : ∃ r, r = w.heap.size + 1 := ⟨_, rfl⟩
  rw [← hr] at kt ⊢
  have hr3 : w.heap.size ≤ r := by omega
  clear hr
  refine (H1.out _ (HR.out _ kb).1).mono ?_
  rintro e w4 ⟨rfl, hb4⟩
  replace k0 := cell_kept k0 hb4
  replace k1 := cell_kept k1 hb4
  replace kt := kt.below hb4
  replace kb := bt kb hb4
  clear hb4
  go_wp2_with fail
  refine (H2.out _ (HR.out _ kb).2).mono ?_
  rintro e w4 ⟨rfl, rfl⟩
  go_wp2_with fail
  have hr4 := kt.lt
  refine (HD.out _ (HR.out _ kb).1 (HR.out _ kb).2).mono ?_
  rintro e w5 ⟨A5, c5, A6, c6, rfl, hc5, hc6, hO5, hO6, hb5, -⟩
  have hw5 := kb.size
  replace k0 := cell_kept k0 hb5
  replace k1 := cell_kept k1 hb5
  replace kt := kt.below hb5
  replace kb := bt kb hb5
  clear hb5
  go_wp2_with fail
  refine (HO.out _).mono ?_
  rintro e w6 ⟨A8, c8, rfl, hc8, hO8, hb6⟩
  replace hO5 := hO5.below hb6
  replace hO6 := hO6.below hb6
  replace k0 := cell_kept k0 hb6
  replace k1 := cell_kept k1 hb6
  replace kt := kt.below hb6
  replace kb := bt kb hb6
  clear hb6
  go_wp2_with fail
  refine (HAd.out _ _ _ _ _ hO5.rd hO8.rd).mono ?_
  rintro e w7 ⟨A7, c7, rfl, hc7, hO7, hb7⟩
  have hw7 := kb.size
  have hlt7 := kt.lt
  replace hO6 := hO6.below hb7
  replace k0 := cell_kept k0 hb7
  replace k1 := cell_kept k1 hb7
  replace kt := kt.below hb7
  replace kb := bt kb hb7
  clear hb7
  go_wp2_with fail
  refine (HSu.out _ _ _ (HR.out _ kb).2 hO6.rd).mono ?_
  rintro e w8 ⟨A9, c9, rfl, hc9, hO9, hb8⟩
  have hw8 := kb.size
  have hlt8 := kt.lt
  have in7 := own_in hO7 rfl
  have in9 := own_in hO9 rfl
  have hdis := Lib.hid (show ∀ g g', rowOf L.length A7 = some g → rowOf M.length A9 = some g' → g ≠ g' from fun g g' e1 e2 => by have h1 := in7 g e1; have h2 := in9 g' e2; omega)
  clear in7 in9
  replace hO7 := hO7.below hb8
  replace k0 := cell_kept k0 hb8
  replace k1 := cell_kept k1 hb8
  replace kt := kt.below hb8
  replace kb := bt kb hb8
  clear hb8
  go_wp2_with fail
  refine (HB.out _ _ _ _ hc7 hO7).mono ?_
  rintro e w9 ⟨A7, c7, rfl, hc7, hO7, hb9, hsame0⟩
  have hsame := Lib.hid hsame0
  clear hsame0
  replace hO9 := hO9.below hb9
  obtain ⟨u0, u1, t1, t2, t3, t4⟩ := kt.below hb9
  replace kb := bt kb hb9
  go_wp2
  exact bodyPost_ret (v := .tuple #[.agg #[.bool t, .slice A7 L.length c7], .slice A9 M.length c9]) (by simp [results, Try.results35, go_sem, t1, t2]) rfl ⟨A7, c7, A9, c9, rfl, ((hO7.put hlt7 _).put hlt7 _).more hw7, ((hO9.put hlt8 _).put hlt8 _).more hw8, below_put (below_put kb hr3 _) hr3 _, fun g g' e1 e2 => hdis.out g g' (hsame.out g e1) e2⟩
end Go.Proofs.Ytnejpdlikdgnnaa
