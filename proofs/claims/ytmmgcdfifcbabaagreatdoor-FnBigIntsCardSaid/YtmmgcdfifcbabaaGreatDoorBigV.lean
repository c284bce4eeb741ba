/-
  'BigIntOf', of the model and of the program.
-/
import Derived.Test.YtmmgcdfifcbabaaGreatDoorBigS
import Derived.Test.YtmmgcdfifcbabaaGreatDoorBigR
namespace Go.Proofs.YtmmgcdfifcbabaaGreatDoor
open Go.ChangeShapes Go.WideShapes Go.ChangeAt Go.RowKit
open Go.ChangeMaps (open_string shut_string)
set_option linter.unusedVariables false
set_option linter.unusedSimpArgs false
set_option maxRecDepth 4000

theorem nd_min : nd 9223372036854775808 = [854775808, 223372036, 9] ∧ ln 9223372036854775808 = 3 := by
  have h3 : ln 9223372036854775808 = 3 := by
    rw [ln_pos (by decide), show 9223372036854775808 / 1000000000 = 9223372036 by decide, ln_pos (by decide), show 9223372036 / 1000000000 = 9 by decide, ln_pos (by decide), show 9 / 1000000000 = 0 by decide, ln_zero]
  refine ⟨?_, h3⟩
  unfold nd
  rw [h3]
  decide
theorem ln_word {N : Nat} (h : N ≤ 9223372036854775808) : ln N ≤ 3 := by have := ln_mono h; rw [nd_min.2] at this; exact this
/-- A sign and a magnitude that are x's. -/
theorem made_z {B : Nat} {p : Bool} {a : Nat} {x : Int} {w w' : World} {e : Ending} (h : MadeB B (p && decide (cap60 a ≠ [])) (cap60 a) w e w') (ha : ln a ≤ 60) (hx : (if p then -(a : Int) else (a : Int)) = x) : MadeZ B x w e w' := by
  obtain ⟨e1, e2⟩ := cut_zn p a
  rw [e1, e2, hx] at h
  have hn : x.natAbs = a := by cases p <;> simp at hx <;> omega
  rw [czi_in (by rw [hn]; exact ha)] at h
  exact h

set_option maxHeartbeats 1000000 in
theorem spec_bof_pos (x : Int) (w : World) (h0 : 0 ≤ x) (h1 : x ≤ 9223372036854775807) :
    Calls Tryz.prog 26 #[.int .i64 x] w (MadeB w.heap.size (false && decide (cap60 (x.natAbs) ≠ [])) (cap60 (x.natAbs)) w) := by
  have HN := Lib.hid (fun W => spec_natOf_int x W h1)
  rw [show x.toNat = x.natAbs by omega] at HN
  have HM := Lib.hid (fun A c W (h1 : (nd (x.natAbs)).length ≤ c) (h2 : RdS W A (vi (nd (x.natAbs)))) => make_rd false (x.natAbs) (nd (x.natAbs)).length c A W (by rw [nd_length]) (by rw [nd_length]; have := ln_word (show (x.natAbs) ≤ 9223372036854775808 by omega); omega) h1 h2)
  generalize cap60 (x.natAbs) = L at HM ⊢
  generalize (false && decide (L ≠ [])) = t at HM ⊢
  generalize nd (x.natAbs) = M at HN HM
  have hq : (x == -9223372036854775808) = false := by rw [beq_eq_false_iff_ne]; omega
  have hn : ¬ x < 0 := by omega
  go_enter Tryz.func26, Tryz.ntmps26
  go_wp2_with fail
  have kt := boxT w 25 (.bool false) (.slice none 0 0)
  have kb := ba1 w (.cells #[.bool false, .slice none 0 0] 25)
  generalize w.alloc (.cells #[.bool false, .slice none 0 0] 25) = W1 at kt kb ⊢
  refine (HN.out _).mono ?_
  rintro e w4 ⟨A4, c4, rfl, hc4, hO4, hb4⟩
  replace kt := kt.below hb4
  replace kb := bt kb hb4
  go_wp2_with fail
  refine (HM.out _ _ _ hc4 hO4.rd).mono ?_
  rintro e w6 ⟨A7, c7, rfl, hc7, hO7, hbc⟩
  have hlt := kt.lt
  obtain ⟨u0, u1, t1, t2, t3, t4⟩ := kt.below hbc
  have hfin := bt kb hbc
  go_wp2
  exact bodyPost_ret (v := .agg #[.bool t, .slice A7 L.length c7]) (by simp [results, Tryz.results26, go_sem, t1, t2]) rfl ⟨A7, c7, rfl, hc7, ((hO7.put (by omega) _).put (by omega) _).more (by omega), below_put (below_put hfin (by omega) _) (by omega) _⟩

set_option maxHeartbeats 1000000 in
theorem spec_bof_neg (x : Int) (w : World) (h0 : x < 0) (h1 : -9223372036854775808 < x) :
    Calls Tryz.prog 26 #[.int .i64 x] w (MadeB w.heap.size (true && decide (cap60 (x.natAbs) ≠ [])) (cap60 (x.natAbs)) w) := by
  have HN := Lib.hid (fun W => spec_natOf_int (-x) W (by omega))
  rw [show (-x).toNat = x.natAbs by omega] at HN
  have HM := Lib.hid (fun A c W (h1 : (nd (x.natAbs)).length ≤ c) (h2 : RdS W A (vi (nd (x.natAbs)))) => make_rd true (x.natAbs) (nd (x.natAbs)).length c A W (by rw [nd_length]) (by rw [nd_length]; have := ln_word (show (x.natAbs) ≤ 9223372036854775808 by omega); omega) h1 h2)
  generalize cap60 (x.natAbs) = L at HM ⊢
  generalize (true && decide (L ≠ [])) = t at HM ⊢
  generalize nd (x.natAbs) = M at HN HM
  have hq : (x == -9223372036854775808) = false := by rw [beq_eq_false_iff_ne]; omega
  go_enter Tryz.func26, Tryz.ntmps26
  go_wp2_with fail
  have kt := boxT w 25 (.bool false) (.slice none 0 0)
  have kb := ba1 w (.cells #[.bool false, .slice none 0 0] 25)
  generalize w.alloc (.cells #[.bool false, .slice none 0 0] 25) = W1 at kt kb ⊢
  refine (HN.out _).mono ?_
  rintro e w4 ⟨A4, c4, rfl, hc4, hO4, hb4⟩
  replace kt := kt.below hb4
  replace kb := bt kb hb4
  go_wp2_with fail
  refine (HM.out _ _ _ hc4 hO4.rd).mono ?_
  rintro e w6 ⟨A7, c7, rfl, hc7, hO7, hbc⟩
  have hlt := kt.lt
  obtain ⟨u0, u1, t1, t2, t3, t4⟩ := kt.below hbc
  have hfin := bt kb hbc
  go_wp2
  exact bodyPost_ret (v := .agg #[.bool t, .slice A7 L.length c7]) (by simp [results, Tryz.results26, go_sem, t1, t2]) rfl ⟨A7, c7, rfl, hc7, ((hO7.put (by omega) _).put (by omega) _).more (by omega), below_put (below_put hfin (by omega) _) (by omega) _⟩

set_option maxHeartbeats 1000000 in
theorem spec_bof_min (x : Int) (hq : (x == -9223372036854775808) = true) (N : Nat) (hN : nd N = [854775808, 223372036, 9]) (h3 : ln N = 3) (w : World) :
    Calls Tryz.prog 26 #[.int .i64 x] w (MadeB w.heap.size (true && decide (cap60 N ≠ [])) (cap60 N) w) := by
  have HM := Lib.hid (fun A c W (h1 : 3 ≤ c) (h2 : RdS W A (vi [854775808, 223372036, 9])) => make_rd true N 3 c A W h3 (by omega) h1 (by rw [hN]; exact h2))
  clear hN h3
  generalize cap60 N = L at HM ⊢
  generalize (true && decide (L ≠ [])) = t at HM ⊢
  go_enter Tryz.func26, Tryz.ntmps26
  go_wp2_with fail
  have kt := boxT w 25 (.bool false) (.slice none 0 0)
  have kb := ba1 w (.cells #[.bool false, .slice none 0 0] 25)
  have hsz := sz1 w (.cells #[.bool false, .slice none 0 0] 25)
  generalize w.alloc (.cells #[.bool false, .slice none 0 0] 25) = W1 at kt kb hsz ⊢
  have hB : Blk (W1.alloc (.cells #[.int .i64 854775808, .int .i64 223372036, .int .i64 9] 3)) W1.heap.size [854775808, 223372036, 9] := heap_alloc_new W1 _
  have hlt0 := kt.lt
  replace kt := kt.below (ba1 W1 (.cells #[.int .i64 854775808, .int .i64 223372036, .int .i64 9] 3))
  replace kb := bt kb (ba1 W1 (.cells #[.int .i64 854775808, .int .i64 223372036, .int .i64 9] 3))
  have hO := hB.own (Nat.le_refl _)
  replace hO : RdS _ _ _ := hO.rd
  clear hB
  generalize W1.alloc (.cells #[.int .i64 854775808, .int .i64 223372036, .int .i64 9] 3) = W2 at kt kb hO ⊢
  rw [hsz] at hO
  refine (HM.out (some ⟨w.heap.size + 1, 0, none⟩) 3 W2 (by omega) hO).mono ?_
  rintro e w6 ⟨A7, c7, rfl, hc7, hO7, hbc⟩
  have hlt := kt.lt
  obtain ⟨u0, u1, t1, t2, t3, t4⟩ := kt.below hbc
  have hfin := bt kb hbc
  go_wp2
  exact bodyPost_ret (v := .agg #[.bool t, .slice A7 L.length c7]) (by simp [results, Tryz.results26, go_sem, t1, t2]) rfl ⟨A7, c7, rfl, hc7, ((hO7.put (by omega) _).put (by omega) _).more (by omega), below_put (below_put hfin (by omega) _) (by omega) _⟩

theorem min_abs (x : Int) (hx : x = -9223372036854775808) : ∃ N : Nat, nd N = [854775808, 223372036, 9] ∧ ln N = 3 ∧ -(N : Int) = x := ⟨9223372036854775808, nd_min.1, nd_min.2, by rw [hx]; rfl⟩
theorem spec_bof (x : Int) (w : World) (h0 : -9223372036854775808 ≤ x) (h1 : x ≤ 9223372036854775807) :
    Calls Tryz.prog 26 #[.int .i64 x] w (MadeZ w.heap.size x w) := by
  by_cases hm : x = -9223372036854775808
  · obtain ⟨N, h3, h4, h5⟩ := min_abs x hm
    have h := spec_bof_min x (by rw [hm]; rfl) N h3 h4 w
    exact h.mono fun e w' h => made_z h (by omega) (by simpa using h5)
  · have hl := ln_word (show x.natAbs ≤ 9223372036854775808 by omega)
    by_cases hn : x < 0
    · exact (spec_bof_neg x w hn (by omega)).mono fun e w' h => made_z h (by omega) (by simp; omega)
    · exact (spec_bof_pos x w (by omega) h1).mono fun e w' h => made_z h (by omega) (by simp; omega)

theorem zm_word {x : Int} (h0 : -9223372036854775808 ≤ x) (h1 : x ≤ 9223372036854775807) : (zm x).length ≤ 1048576 := by rw [zm_length]; have := ln_word (show x.natAbs ≤ 9223372036854775808 by omega); omega
end Go.Proofs.YtmmgcdfifcbabaaGreatDoor
