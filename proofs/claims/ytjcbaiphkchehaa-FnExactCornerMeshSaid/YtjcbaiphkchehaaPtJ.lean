/-
  Points of the program: 'IsValidPoint', 'SamePoint', 'PointAt', 'HalfPoint', 'AddPoints', 'ScalePoint', 'Inner'.
-/
import Derived.Test.YtjcbaiphkchehaaPtI
import Derived.Test.YtjcbaiphkchehaaPkI
namespace Go.Proofs.Ytjcbaiphkchehaa
open Go.ChangeShapes Go.WideShapes Go.ChangeAt Go.RowKit
open Go.ChangeMaps (open_string shut_string)
set_option linter.unusedVariables false
set_option linter.unusedSimpArgs false
set_option maxRecDepth 4000

attribute [local go_sem ↓] Go.wp_at_zero Go.wp_at_succ

/-- Where an argument is not valid there is no answer. -/
theorem both_no {F G : Rat → Rat → Option Rat} {x y u v : R3} (h : (okx x && okx y && (okx u && okx v)) = false) : bothX (binQ F (valx x) (valx u)) (binQ G (valx y) (valx v)) = none ∧ bothY (binQ F (valx x) (valx u)) (binQ G (valx y) (valx v)) = none := by
  have n1 : ∀ (F : Rat → Rat → Option Rat) (o : Option Rat), binQ F none o = none := fun F o => by cases o <;> rfl
  have n2 : ∀ (F : Rat → Rat → Option Rat) (o : Option Rat), binQ F o none = none := fun F o => by cases o <;> rfl
  simp only [Bool.and_eq_false_iff] at h
  rcases h with (h | h) | h | h
  · rw [valx_no h, n1]; exact both_n1 _
  · rw [valx_no h, n1]; exact both_n2 _
  · rw [valx_no h, n2]; exact both_n1 _
  · rw [valx_no h, n2]; exact both_n2 _
theorem bin_n1 (F : Rat → Rat → Option Rat) (o : Option Rat) : binQ F none o = none := by cases o <;> rfl
theorem bin_n2 (F : Rat → Rat → Option Rat) (o : Option Rat) : binQ F o none = none := by cases o <;> rfl
theorem inner_no {x y u v : R3} (h : (okx x && okx y && (okx u && okx v)) = false) : binQ addQ (binQ mulQ (valx x) (valx u)) (binQ mulQ (valx y) (valx v)) = none := by
  simp only [Bool.and_eq_false_iff] at h
  rcases h with (h | h) | h | h
  · rw [valx_no h, bin_n1, bin_n1]
  · rw [valx_no h, bin_n1, bin_n2]
  · rw [valx_no h, bin_n2, bin_n1]
  · rw [valx_no h, bin_n2, bin_n2]
theorem cross_no {x y u v : R3} (h : (okx x && okx y && (okx u && okx v)) = false) : binQ subQ (binQ mulQ (valx x) (valx v)) (binQ mulQ (valx y) (valx u)) = none := by
  simp only [Bool.and_eq_false_iff] at h
  rcases h with (h | h) | h | h
  · rw [valx_no h, bin_n1, bin_n1]
  · rw [valx_no h, bin_n1, bin_n2]
  · rw [valx_no h, bin_n2, bin_n2]
  · rw [valx_no h, bin_n2, bin_n1]

theorem below_put6a {B r : Nat} {w w1 : World} (h : Below B w w1) (hr : B ≤ r) (hB : B ≤ w1.heap.size) (o : Obj) (u0 u1 u2 u3 u4 u5 : Value) : Below B w (((((((w1.setCell ⟨r, 0, none⟩ u0).setCell ⟨r, 1, none⟩ u1).setCell ⟨r, 2, none⟩ u2).setCell ⟨r, 3, none⟩ u3).setCell ⟨r, 4, none⟩ u4).setCell ⟨r, 5, none⟩ u5).alloc o) := (below_put6 h hr u0 u1 u2 u3 u4 u5).alloc (by rw [size_put6]; exact hB) o
theorem below_put3a {B r : Nat} {w w1 : World} (h : Below B w w1) (hr : B ≤ r) (hB : B ≤ w1.heap.size) (o : Obj) (u0 u1 u2 : Value) : Below B w ((((w1.setCell ⟨r, 0, none⟩ u0).setCell ⟨r, 1, none⟩ u1).setCell ⟨r, 2, none⟩ u2).alloc o) := (below_put3 h hr u0 u1 u2).alloc (by rw [size_put3]; exact hB) o
/-- A whole number's data. -/
def rfi (x : Int) : R3 := ⟨zn x, zm x, nd 1⟩
theorem rfi_short (x : Int) (h : -9223372036854775808 ≤ x ∧ x ≤ 9223372036854775807) : Short (rfi x) := by
  have := ln_word (show x.natAbs ≤ 9223372036854775808 by omega)
  refine ⟨?_, ?_⟩
  · show (zm x).length ≤ 1048576
    rw [zm_length]; omega
  · show (nd 1).length ≤ 1048576
    rw [nd_one]; decide
theorem ofQ_fit (x y : Int) : FitO (ofQ x y) := by
  unfold ofQ makQ
  split
  · exact fun r h => lowQ_fit h
  · exact fitO_none

set_option maxHeartbeats 1000000 in
theorem impl_pointAt (x y : Int) (w : World) (h0 : -9223372036854775808 ≤ x ∧ x ≤ 9223372036854775807) (h1 : -9223372036854775808 ≤ y ∧ y ≤ 9223372036854775807) :
    Calls Try.prog 15 #[.int .i64 x, .int .i64 y] w (MadeP w.heap.size (rfi x) (rfi y) w) := by
  have HX := Lib.hid (fun W => show Calls Try.prog 26 #[.int .i64 x] W (MadeQ W.heap.size (rfi x) W) from (impl_rfi x W h0).mono fun e w' k => MadeR.toQ (x := rfi x) k)
  have HY := Lib.hid (fun W => show Calls Try.prog 26 #[.int .i64 y] W (MadeQ W.heap.size (rfi y) W) from (impl_rfi y W h1).mono fun e w' k => MadeR.toQ (x := rfi y) k)
  clear h0 h1
  generalize rfi x = X at HX ⊢
  generalize rfi y = Y at HY ⊢
  go_enter Try.func15, Try.ntmps15
  go_wp2_with fail
  have kb := ba1 w (.cells #[.bool false, .slice none 0 0, .slice none 0 0, .bool false, .slice none 0 0, .slice none 0 0] 39)
  have P_o := heap_alloc_new w (.cells #[.bool false, .slice none 0 0, .slice none 0 0, .bool false, .slice none 0 0, .slice none 0 0] 39)
  generalize w.alloc (.cells #[.bool false, .slice none 0 0, .slice none 0 0, .bool false, .slice none 0 0, .slice none 0 0] 39) = W1 at kb P_o ⊢
  obtain ⟨rr, hrr⟩ : ∃ r, r = w.heap.size := ⟨_, rfl⟩
  rw [← hrr] at P_o ⊢
  have hrr3 : w.heap.size ≤ rr := by omega
  clear hrr
  have hlt0 := rblk_lt P_o
  have hle0 := kb.size
  refine (HX.out _).mono ?_
  rintro e W2 ⟨a1, rfl, hc1, hc2, o1, hap1, hb⟩
  replace P_o := rblk_below P_o hb
  replace kb := bt kb hb
  have hz1 := hb.size
  clear hb
  go_wp2_with fail
  refine (HY.out _).mono ?_
  rintro e W3 ⟨b1, rfl, hc3, hc4, o2, hap2, hb⟩
  replace P_o := rblk_below P_o hb
  replace o1 := o1.below hb
  replace kb := bt kb hb
  have hz2 := hb.size
  clear hb
  have c_o0 : W3.cell? ⟨rr, 0, none⟩ = some (.bool false) := rblk_cell P_o 0
  have c_o1 : W3.cell? ⟨rr, 1, none⟩ = some (.slice none 0 0) := rblk_cell P_o 1
  have c_o2 : W3.cell? ⟨rr, 2, none⟩ = some (.slice none 0 0) := rblk_cell P_o 2
  have c_o3 : W3.cell? ⟨rr, 3, none⟩ = some (.bool false) := rblk_cell P_o 3
  have c_o4 : W3.cell? ⟨rr, 4, none⟩ = some (.slice none 0 0) := rblk_cell P_o 4
  have c_o5 : W3.cell? ⟨rr, 5, none⟩ = some (.slice none 0 0) := rblk_cell P_o 5
  have f_o0 := rblk_free P_o 0
  have f_o1 := rblk_free P_o 1
  have f_o2 := rblk_free P_o 2
  have f_o3 := rblk_free P_o 3
  have f_o4 := rblk_free P_o 4
  have f_o5 := rblk_free P_o 5
  go_wp2
  exact bodyPost_ret (v := .agg #[.bool X.p, .slice a1.A X.l.length a1.c, .slice a1.D X.m.length a1.d, .bool Y.p, .slice b1.A Y.l.length b1.c, .slice b1.D Y.m.length b1.d]) (by simp [results, Try.results15, go_sem, c_o0, c_o1, c_o2, c_o3, c_o4, c_o5]) rfl ⟨a1, b1, rfl, ⟨hc1, hc2, hc3, hc4⟩, owns_end6 (Owns.app (o1.wide (Nat.le_refl _) hz2) (o2.wide hz1 (Nat.le_refl _))) (.inl hlt0) hle0 (Nat.le_refl _) _ _ _ _ _ _, Aparts.app hap1 hap2 o1 o2, below_put6 kb hrr3 _ _ _ _ _ _⟩

set_option maxHeartbeats 1000000 in
theorem impl_halfP (x y : Int) (w : World) (h0 : -9223372036854775808 ≤ x ∧ x ≤ 9223372036854775807) (h1 : -9223372036854775808 ≤ y ∧ y ≤ 9223372036854775807) :
    Calls Try.prog 17 #[.int .i64 x, .int .i64 y] w (MadeP w.heap.size (ofO (ofQ x 2)) (ofO (ofQ y 2)) w) := by
  have HX := Lib.hid (fun W => show Calls Try.prog 27 #[.int .i64 x, .int .i64 2] W (MadeQ W.heap.size (ofO (ofQ x 2)) W) from (impl_rof x 2 W h0 (by decide)).mono fun e w' k => MadeR.toQ (x := ofO (ofQ x 2)) k)
  have HY := Lib.hid (fun W => show Calls Try.prog 27 #[.int .i64 y, .int .i64 2] W (MadeQ W.heap.size (ofO (ofQ y 2)) W) from (impl_rof y 2 W h1 (by decide)).mono fun e w' k => MadeR.toQ (x := ofO (ofQ y 2)) k)
  clear h0 h1
  generalize ofO (ofQ x 2) = X at HX ⊢
  generalize ofO (ofQ y 2) = Y at HY ⊢
  go_enter Try.func17, Try.ntmps17
  go_wp2_with fail
  have kb := ba1 w (.cells #[.bool false, .slice none 0 0, .slice none 0 0, .bool false, .slice none 0 0, .slice none 0 0] 39)
  have P_o := heap_alloc_new w (.cells #[.bool false, .slice none 0 0, .slice none 0 0, .bool false, .slice none 0 0, .slice none 0 0] 39)
  generalize w.alloc (.cells #[.bool false, .slice none 0 0, .slice none 0 0, .bool false, .slice none 0 0, .slice none 0 0] 39) = W1 at kb P_o ⊢
  obtain ⟨rr, hrr⟩ : ∃ r, r = w.heap.size := ⟨_, rfl⟩
  rw [← hrr] at P_o ⊢
  have hrr3 : w.heap.size ≤ rr := by omega
  clear hrr
  have hlt0 := rblk_lt P_o
  have hle0 := kb.size
  refine (HX.out _).mono ?_
  rintro e W2 ⟨a1, rfl, hc1, hc2, o1, hap1, hb⟩
  replace P_o := rblk_below P_o hb
  replace kb := bt kb hb
  have hz1 := hb.size
  clear hb
  go_wp2_with fail
  refine (HY.out _).mono ?_
  rintro e W3 ⟨b1, rfl, hc3, hc4, o2, hap2, hb⟩
  replace P_o := rblk_below P_o hb
  replace o1 := o1.below hb
  replace kb := bt kb hb
  have hz2 := hb.size
  clear hb
  have c_o0 : W3.cell? ⟨rr, 0, none⟩ = some (.bool false) := rblk_cell P_o 0
  have c_o1 : W3.cell? ⟨rr, 1, none⟩ = some (.slice none 0 0) := rblk_cell P_o 1
  have c_o2 : W3.cell? ⟨rr, 2, none⟩ = some (.slice none 0 0) := rblk_cell P_o 2
  have c_o3 : W3.cell? ⟨rr, 3, none⟩ = some (.bool false) := rblk_cell P_o 3
  have c_o4 : W3.cell? ⟨rr, 4, none⟩ = some (.slice none 0 0) := rblk_cell P_o 4
  have c_o5 : W3.cell? ⟨rr, 5, none⟩ = some (.slice none 0 0) := rblk_cell P_o 5
  have f_o0 := rblk_free P_o 0
  have f_o1 := rblk_free P_o 1
  have f_o2 := rblk_free P_o 2
  have f_o3 := rblk_free P_o 3
  have f_o4 := rblk_free P_o 4
  have f_o5 := rblk_free P_o 5
  go_wp2
  exact bodyPost_ret (v := .agg #[.bool X.p, .slice a1.A X.l.length a1.c, .slice a1.D X.m.length a1.d, .bool Y.p, .slice b1.A Y.l.length b1.c, .slice b1.D Y.m.length b1.d]) (by simp [results, Try.results17, go_sem, c_o0, c_o1, c_o2, c_o3, c_o4, c_o5]) rfl ⟨a1, b1, rfl, ⟨hc1, hc2, hc3, hc4⟩, owns_end6 (Owns.app (o1.wide (Nat.le_refl _) hz2) (o2.wide hz1 (Nat.le_refl _))) (.inl hlt0) hle0 (Nat.le_refl _) _ _ _ _ _ _, Aparts.app hap1 hap2 o1 o2, below_put6 kb hrr3 _ _ _ _ _ _⟩

end Go.Proofs.Ytjcbaiphkchehaa
