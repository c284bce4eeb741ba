/-
  'BigIntOf', of the model and of the program.
-/
import Derived.Test.YtnejpdlikdgnnaaBigT
namespace Go.Proofs.Ytnejpdlikdgnnaa
open Go.ChangeShapes Go.WideShapes Go.ChangeAt Go.RowKit
open Go.ChangeMaps (open_string shut_string)
set_option linter.unusedVariables false
set_option linter.unusedSimpArgs false
set_option maxRecDepth 4000

theorem nd_min : nd 9223372036854775808 = [854775808, 223372036, 9] ∧ ln 9223372036854775808 = 3 := by
  have h3 : ln 9223372036854775808 = 3 := by
    rw [ln_pos (by decide), show 9223372036854775808 / 1000000000 = 9223372036 by decide, ln_pos (by decide), show 9223372036 / 1000000000 = 9 by decide, ln_pos (by decide), show 9 / 1000000000 = 0 by decide, ln_zero]
  refine ⟨?_, h3⟩
  unfold nd
  rw [h3]
  decide
theorem ln_word {N : Nat} (h : N ≤ 9223372036854775808) : ln N ≤ 3 := by have := ln_mono h; rw [nd_min.2] at this; exact this
/-- A sign and a magnitude that are x's. -/
theorem made_z {B : Nat} {p : Bool} {a : Nat} {x : Int} {w w' : World} {e : Ending} (h : MadeB B (p && decide (cap60 a ≠ [])) (cap60 a) w e w') (ha : ln a ≤ 60) (hx : (if p then -(a : Int) else (a : Int)) = x) : MadeZ B x w e w' := by
  obtain ⟨e1, e2⟩ := cut_zn p a
  rw [e1, e2, hx] at h
  have hn : x.natAbs = a := by cases p <;> simp at hx <;> omega
  rw [czi_in (by rw [hn]; exact ha)] at h
  exact h

set_option maxHeartbeats 1000000 in
theorem spec_bof_pos (x : Int) (w : World) (h0 : 0 ≤ x) (h1 : x ≤ 9223372036854775807) :
    Calls Try.prog 17 #[.int .i64 x] w (MadeB w.heap.size (false && decide (cap60 (x.natAbs) ≠ [])) (cap60 (x.natAbs)) w) := by
  have HN := Lib.hid (fun W => spec_natOf_int x W h1)
  rw [show x.toNat = x.natAbs by omega] at HN
  have HM := Lib.hid (fun A c W (h1 : (nd (x.natAbs)).length ≤ c) (h2 : RdS W A (vi (nd (x.natAbs)))) => make_rd false (x.natAbs) (nd (x.natAbs)).length c A W (by rw [nd_length]) (by rw [nd_length]; have := ln_word (show (x.natAbs) ≤ 9223372036854775808 by omega); omega) h1 h2)
  generalize cap60 (x.natAbs) = L at HM ⊢
  generalize (false && decide (L ≠ [])) = t at HM ⊢
  generalize nd (x.natAbs) = M at HN HM
  have hq : (x == -9223372036854775808) = false := by rw [beq_eq_false_iff_ne]; omega
  have hn : ¬ x < 0 := by omega
  go_enter Try.func17, Try.ntmps17
  go_wp2_with fail
  have kt := boxT w 27 (.bool false) (.slice none 0 0)
  have kb := ba1 w (.cells #[.bool false, .slice none 0 0] 27)
  generalize w.alloc (.cells #[.bool false, .slice none 0 0] 27) = W1 at kt kb ⊢
  refine (HN.out _).mono ?_
  rintro e w4 ⟨A4, c4, rfl, hc4, hO4, hb4⟩
  replace kt := kt.below hb4
  replace kb := bt kb hb4
  go_wp2_with fail
  refine (HM.out _ _ _ hc4 hO4.rd).mono ?_
  rintro e w6 ⟨A7, c7, rfl, hc7, hO7, hbc⟩
  have hlt := kt.lt
  obtain ⟨u0, u1, t1, t2, t3, t4⟩ := kt.below hbc
  have hfin := bt kb hbc
  go_wp2
  exact bodyPost_ret (v := .agg #[.bool t, .slice A7 L.length c7]) (by simp [results, Try.results17, go_sem, t1, t2]) rfl ⟨A7, c7, rfl, hc7, ((hO7.put (by omega) _).put (by omega) _).more (by omega), below_put (below_put hfin (by omega) _) (by omega) _⟩

set_option maxHeartbeats 1000000 in
theorem spec_bof_neg (x : Int) (w : World) (h0 : x < 0) (h1 : -9223372036854775808 < x) :
    Calls Try.prog 17 #[.int .i64 x] w (MadeB w.heap.size (true && decide (cap60 (x.natAbs) ≠ [])) (cap60 (x.natAbs)) w) := by
  have HN := Lib.hid (fun W => spec_natOf_int (-x) W (by omega))
  rw [show (-x).toNat = x.natAbs by omega] at HN
  have HM := Lib.hid (fun A c W (h1 : (nd (x.natAbs)).length ≤ c) (h2 : RdS W A (vi (nd (x.natAbs)))) => make_rd true (x.natAbs) (nd (x.natAbs)).length c A W (by rw [nd_length]) (by rw [nd_length]; have := ln_word (show (x.natAbs) ≤ 9223372036854775808 by omega); omega) h1 h2)
  generalize cap60 (x.natAbs) = L at HM ⊢
  generalize (true && decide (L ≠ [])) = t at HM ⊢
  generalize nd (x.natAbs) = M at HN HM
  have hq : (x == -9223372036854775808) = false := by rw [beq_eq_false_iff_ne]; omega
  go_enter Try.func17, Try.ntmps17
  go_wp2_with fail
  have kt := boxT w 27 (.bool false) (.slice none 0 0)
  have kb := ba1 w (.cells #[.bool false, .slice none 0 0] 27)
  generalize w.alloc (.cells #[.bool false, .slice none 0 0] 27) = W1 at kt kb ⊢
  refine (HN.out _).mono ?_
  rintro e w4 ⟨A4, c4, rfl, hc4, hO4, hb4⟩
  replace kt := kt.below hb4
  replace kb := bt kb hb4
  go_wp2_with fail
  refine (HM.out _ _ _ hc4 hO4.rd).mono ?_
  rintro e w6 ⟨A7, c7, rfl, hc7, hO7, hbc⟩
  have hlt := kt.lt
  obtain ⟨u0, u1, t1, t2, t3, t4⟩ := kt.below hbc
  have hfin := bt kb hbc
  go_wp2
  exact bodyPost_ret (v := .agg #[.bool t, .slice A7 L.length c7]) (by simp [results, Try.results17, go_sem, t1, t2]) rfl ⟨A7, c7, rfl, hc7, ((hO7.put (by omega) _).put (by omega) _).more (by omega), below_put (below_put hfin (by omega) _) (by omega) _⟩

set_option maxHeartbeats 1000000 in
theorem spec_bof_min (x : Int) (hq : (x == -9223372036854775808) = true) (N : Nat) (hN : nd N = [854775808, 223372036, 9]) (h3 : ln N = 3) (w : World) :
    Calls Try.prog 17 #[.int .i64 x] w (MadeB w.heap.size (true && decide (cap60 N ≠ [])) (cap60 N) w) := by
  have HM := Lib.hid (fun A c W (h1 : 3 ≤ c) (h2 : RdS W A (vi [854775808, 223372036, 9])) => make_rd true N 3 c A W h3 (by omega) h1 (by rw [hN]; exact h2))
  clear hN h3
  generalize cap60 N = L at HM ⊢
  generalize (true && decide (L ≠ [])) = t at HM ⊢
  go_enter Try.func17, Try.ntmps17
  go_wp2_with fail
  have kt := boxT w 27 (.bool false) (.slice none 0 0)
  have kb := ba1 w (.cells #[.bool false, .slice none 0 0] 27)
  have hsz := sz1 w (.cells #[.bool false, .slice none 0 0] 27)
  generalize w.alloc (.cells #[.bool false, .slice none 0 0] 27) = W1 at kt kb hsz ⊢
  have hB : Blk (W1.alloc (.cells #[.int .i64 854775808, .int .i64 223372036, .int .i64 9] 3)) W1.heap.size [854775808, 223372036, 9] := heap_alloc_new W1 _
  have hlt0 := kt.lt
  replace kt := kt.below (ba1 W1 (.cells #[.int .i64 854775808, .int .i64 223372036, .int .i64 9] 3))
  replace kb := bt kb (ba1 W1 (.cells #[.int .i64 854775808, .int .i64 223372036, .int .i64 9] 3))
  have hO := hB.own (Nat.le_refl _)
  replace hO : RdS _ _ _ := hO.rd
  clear hB
  generalize W1.alloc (.cells #[.int .i64 854775808, .int .i64 223372036, .int .i64 9] 3) = W2 at kt kb hO ⊢
  rw [hsz] at hO
  refine (HM.out (some ⟨w.heap.size + 1, 0, none⟩) 3 W2 (by omega) hO).mono ?_
  rintro e w6 ⟨A7, c7, rfl, hc7, hO7, hbc⟩
  have hlt := kt.lt
  obtain ⟨u0, u1, t1, t2, t3, t4⟩ := kt.below hbc
  have hfin := bt kb hbc
  go_wp2
  exact bodyPost_ret (v := .agg #[.bool t, .slice A7 L.length c7]) (by simp [results, Try.results17, go_sem, t1, t2]) rfl ⟨A7, c7, rfl, hc7, ((hO7.put (by omega) _).put (by omega) _).more (by omega), below_put (below_put hfin (by omega) _) (by omega) _⟩

theorem min_abs (x : Int) (hx : x = -9223372036854775808) : ∃ N : Nat, nd N = [854775808, 223372036, 9] ∧ ln N = 3 ∧ -(N : Int) = x := ⟨9223372036854775808, nd_min.1, nd_min.2, by rw [hx]; rfl⟩
theorem spec_bof (x : Int) (w : World) (h0 : -9223372036854775808 ≤ x) (h1 : x ≤ 9223372036854775807) :
    Calls Try.prog 17 #[.int .i64 x] w (MadeZ w.heap.size x w) := by
  by_cases hm : x = -9223372036854775808
  · obtain ⟨N, h3, h4, h5⟩ := min_abs x hm
    have h := spec_bof_min x (by rw [hm]; rfl) N h3 h4 w
    exact h.mono fun e w' h => made_z h (by omega) (by simpa using h5)
  · have hl := ln_word (show x.natAbs ≤ 9223372036854775808 by omega)
    by_cases hn : x < 0
    · exact (spec_bof_neg x w hn (by omega)).mono fun e w' h => made_z h (by omega) (by simp; omega)
    · exact (spec_bof_pos x w (by omega) h1).mono fun e w' h => made_z h (by omega) (by simp; omega)

set_option maxHeartbeats 1000000 in
theorem impl_bof_pos (x : Int) (w : World) (h0 : 0 ≤ x) (h1 : x ≤ 9223372036854775807) :
    Calls Try.prog 18 #[.int .i64 x] w (MadeB w.heap.size (false && decide (cap60 x.natAbs ≠ [])) (cap60 x.natAbs) w) := by
  have HN := Lib.hid (fun W => impl_natOf_int x W h1)
  rw [show x.toNat = x.natAbs by omega] at HN
  have hL : (nd x.natAbs).length ≤ 1048576 := by rw [nd_length]; have := ln_word (show x.natAbs ≤ 9223372036854775808 by omega); omega
  rw [cap60_yes' (by have := ln_word (show x.natAbs ≤ 9223372036854775808 by omega); omega)]
  generalize nd x.natAbs = L at HN hL ⊢
  have HB := Lib.hid (fun B A c W (hc : L.length ≤ c) (ho : OwnS B W A (vi L)) => bigInt_any B false L A L.length c W rfl hL hc ho)
  generalize (false && decide (L ≠ [])) = t at HB ⊢
  go_enter Try.func18, Try.ntmps18
  go_wp2_with fail
  have kt := boxT w 27 (.bool false) (.slice none 0 0)
  have kb := ba1 w (.cells #[.bool false, .slice none 0 0] 27)
  generalize w.alloc (.cells #[.bool false, .slice none 0 0] 27) = W1 at kt kb ⊢
  have hltB := kt.lt
  refine (HN.out _).mono ?_
  rintro e w4 ⟨A4, c4, rfl, hc4, hO4, hb4⟩
  replace kt := kt.below hb4
  replace kb := bt kb hb4
  go_wp2_with fail
  refine (HB.out _ _ _ _ hc4 hO4).mono ?_
  rintro e w6 ⟨A7, c7, rfl, hc7, hO7, hbc⟩
  have hlt := kt.lt
  obtain ⟨u0, u1, t1, t2, t3, t4⟩ := kt.below hbc
  have hfin := bt kb hbc
  go_wp2
  exact bodyPost_ret (v := .agg #[.bool t, .slice A7 L.length c7]) (by simp [results, Try.results18, go_sem, t1, t2]) rfl ⟨A7, c7, rfl, hc7, ((hO7.put (by omega) _).put (by omega) _).more (by omega), below_put (below_put hfin (by omega) _) (by omega) _⟩

set_option maxHeartbeats 1000000 in
theorem impl_bof_neg (x : Int) (w : World) (h0 : x < 0) (h1 : -9223372036854775808 ≤ x) :
    Calls Try.prog 18 #[.int .i64 x] w (MadeB w.heap.size (true && decide (cap60 x.natAbs ≠ [])) (cap60 x.natAbs) w) := by
  have HN := Lib.hid (fun W => impl_natOf_int (-(x + 1)) W (by omega))
  rw [show (-(x + 1)).toNat = x.natAbs - 1 by omega] at HN
  have HO := Lib.hid (fun W => impl_natOf_int 1 W (by omega))
  rw [show (1 : Int).toNat = 1 by decide] at HO
  have hl1 := ln_word (show x.natAbs - 1 ≤ 9223372036854775808 by omega)
  have hl2 := ln_word (show 1 ≤ 9223372036854775808 by omega)
  have HS := Lib.hid (fun A c D d W h h' => sum_any (x.natAbs - 1) 1 A D (nd (x.natAbs - 1)).length c (nd 1).length d W (by rw [nd_length]) (by rw [nd_length]) (by rw [nd_length]; omega) (by rw [nd_length]; omega) h h')
  rw [show x.natAbs - 1 + 1 = x.natAbs by omega] at HS
  have hL : (cap60 x.natAbs).length ≤ 1048576 := by have := cap60_len' x.natAbs; omega
  generalize cap60 x.natAbs = L at HS hL ⊢
  generalize nd (x.natAbs - 1) = M at HN HS
  generalize nd 1 = K at HO HS
  clear hl1 hl2
  have HB := Lib.hid (fun B A c W (hc : L.length ≤ c) (ho : OwnS B W A (vi L)) => bigInt_any B true L A L.length c W rfl hL hc ho)
  generalize (true && decide (L ≠ [])) = t at HB ⊢
  go_enter Try.func18, Try.ntmps18
  go_wp2_with fail
  have kt := boxT w 27 (.bool false) (.slice none 0 0)
  have kb := ba1 w (.cells #[.bool false, .slice none 0 0] 27)
  generalize w.alloc (.cells #[.bool false, .slice none 0 0] 27) = W1 at kt kb ⊢
  refine (HN.out _).mono ?_
  rintro e w4 ⟨A4, c4, rfl, hc4, hO4, hb4⟩
  replace kt := kt.below hb4
  replace kb := bt kb hb4
  go_wp2_with fail
  refine (HO.out _).mono ?_
  rintro e w5 ⟨A5, c5, rfl, hc5, hO5, hb5⟩
  replace kt := kt.below hb5
  replace kb := bt kb hb5
  replace hO4 := hO4.below hb5
  go_wp2_with fail
  refine (HS.out _ _ _ _ _ hO4.rd hO5.rd).mono ?_
  rintro e w6 ⟨A6, c6, rfl, hc6, hO6, hb6⟩
  have hlt0 := kt.lt
  replace kt := kt.below hb6
  replace kb := bt kb hb6
  go_wp2_with fail
  refine (HB.out _ _ _ _ hc6 hO6).mono ?_
  rintro e w7 ⟨A7, c7, rfl, hc7, hO7, hbc⟩
  have hlt := kt.lt
  obtain ⟨u0, u1, t1, t2, t3, t4⟩ := kt.below hbc
  have hfin := bt kb hbc
  go_wp2
  exact bodyPost_ret (v := .agg #[.bool t, .slice A7 L.length c7]) (by simp [results, Try.results18, go_sem, t1, t2]) rfl ⟨A7, c7, rfl, hc7, ((hO7.put (by omega) _).put (by omega) _).more (by omega), below_put (below_put hfin (by omega) _) (by omega) _⟩

theorem impl_bof (x : Int) (w : World) (h0 : -9223372036854775808 ≤ x) (h1 : x ≤ 9223372036854775807) :
    Calls Try.prog 18 #[.int .i64 x] w (MadeZ w.heap.size x w) := by
  have hl := ln_word (show x.natAbs ≤ 9223372036854775808 by omega)
  by_cases hn : x < 0
  · exact (impl_bof_neg x w hn h0).mono fun e w' h => made_z h (by omega) (by simp; omega)
  · exact (impl_bof_pos x w (by omega) h1).mono fun e w' h => made_z h (by omega) (by simp; omega)
theorem zm_word {x : Int} (h0 : -9223372036854775808 ≤ x) (h1 : x ≤ 9223372036854775807) : (zm x).length ≤ 1048576 := by rw [zm_length]; have := ln_word (show x.natAbs ≤ 9223372036854775808 by omega); omega
end Go.Proofs.Ytnejpdlikdgnnaa
