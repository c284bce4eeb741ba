/-
  Points of the model.
-/
import Derived.Test.YtjcbaiphkchehaaPtJ
import Derived.Test.YtjcbaiphkchehaaPkE
import Derived.Test.YtjcbaiphkchehaaPkH
namespace Go.Proofs.Ytjcbaiphkchehaa
open Go.ChangeShapes Go.WideShapes Go.ChangeAt Go.RowKit
open Go.ChangeMaps (open_string shut_string)
set_option linter.unusedVariables false
set_option linter.unusedSimpArgs false
set_option maxRecDepth 4000

attribute [local go_sem ↓] Go.wp_at_zero Go.wp_at_succ

set_option maxHeartbeats 1000000 in
theorem spec_pointAt (x y : Int) (w : World) (h0 : -9223372036854775808 ≤ x ∧ x ≤ 9223372036854775807) (h1 : -9223372036854775808 ≤ y ∧ y ≤ 9223372036854775807) :
    Calls Try.prog 13 #[.int .i64 x, .int .i64 y] w (MadeP w.heap.size (rfi x) (rfi y) w) := by
  have HX := Lib.hid (fun W => show Calls Try.prog 24 #[.int .i64 x] W (MadeQ W.heap.size (rfi x) W) from (spec_rfi x W h0).mono fun e w' k => MadeR.toQ (x := rfi x) k)
  have HY := Lib.hid (fun W => show Calls Try.prog 24 #[.int .i64 y] W (MadeQ W.heap.size (rfi y) W) from (spec_rfi y W h1).mono fun e w' k => MadeR.toQ (x := rfi y) k)
  clear h0 h1
  generalize rfi x = X at HX ⊢
  generalize rfi y = Y at HY ⊢
  go_enter Try.func13, Try.ntmps13
  go_wp2_with fail
  have kb := ba1 w (.cells #[.bool false, .slice none 0 0, .slice none 0 0, .bool false, .slice none 0 0, .slice none 0 0] 39)
  have P_o := heap_alloc_new w (.cells #[.bool false, .slice none 0 0, .slice none 0 0, .bool false, .slice none 0 0, .slice none 0 0] 39)
  generalize w.alloc (.cells #[.bool false, .slice none 0 0, .slice none 0 0, .bool false, .slice none 0 0, .slice none 0 0] 39) = W1 at kb P_o ⊢
  obtain ⟨rr, hrr⟩ : ∃ r, r = w.heap.size := ⟨_, rfl⟩
  rw [← hrr] at P_o ⊢
  have hrr3 : w.heap.size ≤ rr := by omega
  clear hrr
  have hlt0 := rblk_lt P_o
  have hle0 := kb.size
  refine (HX.out _).mono ?_
  rintro e W2 ⟨a1, rfl, hc1, hc2, o1, hap1, hb⟩
  replace P_o := rblk_below P_o hb
  replace kb := bt kb hb
  have hz1 := hb.size
  clear hb
  go_wp2_with fail
  refine (HY.out _).mono ?_
  rintro e W3 ⟨b1, rfl, hc3, hc4, o2, hap2, hb⟩
  replace P_o := rblk_below P_o hb
  replace o1 := o1.below hb
  replace kb := bt kb hb
  have hz2 := hb.size
  clear hb
  have c_o0 : W3.cell? ⟨rr, 0, none⟩ = some (.bool false) := rblk_cell P_o 0
  have c_o1 : W3.cell? ⟨rr, 1, none⟩ = some (.slice none 0 0) := rblk_cell P_o 1
  have c_o2 : W3.cell? ⟨rr, 2, none⟩ = some (.slice none 0 0) := rblk_cell P_o 2
  have c_o3 : W3.cell? ⟨rr, 3, none⟩ = some (.bool false) := rblk_cell P_o 3
  have c_o4 : W3.cell? ⟨rr, 4, none⟩ = some (.slice none 0 0) := rblk_cell P_o 4
  have c_o5 : W3.cell? ⟨rr, 5, none⟩ = some (.slice none 0 0) := rblk_cell P_o 5
  have f_o0 := rblk_free P_o 0
  have f_o1 := rblk_free P_o 1
  have f_o2 := rblk_free P_o 2
  have f_o3 := rblk_free P_o 3
  have f_o4 := rblk_free P_o 4
  have f_o5 := rblk_free P_o 5
  go_wp2
  exact bodyPost_ret (v := .agg #[.bool X.p, .slice a1.A X.l.length a1.c, .slice a1.D X.m.length a1.d, .bool Y.p, .slice b1.A Y.l.length b1.c, .slice b1.D Y.m.length b1.d]) (by simp [results, Try.results13, go_sem, c_o0, c_o1, c_o2, c_o3, c_o4, c_o5]) rfl ⟨a1, b1, rfl, ⟨hc1, hc2, hc3, hc4⟩, owns_end6 (Owns.app (o1.wide (Nat.le_refl _) hz2) (o2.wide hz1 (Nat.le_refl _))) (.inl hlt0) hle0 (Nat.le_refl _) _ _ _ _ _ _, Aparts.app hap1 hap2 o1 o2, below_put6 kb hrr3 _ _ _ _ _ _⟩

set_option maxHeartbeats 1000000 in
theorem spec_halfP (x y : Int) (w : World) (h0 : -9223372036854775808 ≤ x ∧ x ≤ 9223372036854775807) (h1 : -9223372036854775808 ≤ y ∧ y ≤ 9223372036854775807) :
    Calls Try.prog 14 #[.int .i64 x, .int .i64 y] w (MadeP w.heap.size (ofO (ofQ x 2)) (ofO (ofQ y 2)) w) := by
  have HX := Lib.hid (fun W => show Calls Try.prog 25 #[.int .i64 x, .int .i64 2] W (MadeQ W.heap.size (ofO (ofQ x 2)) W) from (spec_rof x 2 W h0 (by decide)).mono fun e w' k => MadeR.toQ (x := ofO (ofQ x 2)) k)
  have HY := Lib.hid (fun W => show Calls Try.prog 25 #[.int .i64 y, .int .i64 2] W (MadeQ W.heap.size (ofO (ofQ y 2)) W) from (spec_rof y 2 W h1 (by decide)).mono fun e w' k => MadeR.toQ (x := ofO (ofQ y 2)) k)
  clear h0 h1
  generalize ofO (ofQ x 2) = X at HX ⊢
  generalize ofO (ofQ y 2) = Y at HY ⊢
  go_enter Try.func14, Try.ntmps14
  go_wp2_with fail
  have kb := ba1 w (.cells #[.bool false, .slice none 0 0, .slice none 0 0, .bool false, .slice none 0 0, .slice none 0 0] 39)
  have P_o := heap_alloc_new w (.cells #[.bool false, .slice none 0 0, .slice none 0 0, .bool false, .slice none 0 0, .slice none 0 0] 39)
  generalize w.alloc (.cells #[.bool false, .slice none 0 0, .slice none 0 0, .bool false, .slice none 0 0, .slice none 0 0] 39) = W1 at kb P_o ⊢
  obtain ⟨rr, hrr⟩ : ∃ r, r = w.heap.size := ⟨_, rfl⟩
  rw [← hrr] at P_o ⊢
  have hrr3 : w.heap.size ≤ rr := by omega
  clear hrr
  have hlt0 := rblk_lt P_o
  have hle0 := kb.size
  refine (HX.out _).mono ?_
  rintro e W2 ⟨a1, rfl, hc1, hc2, o1, hap1, hb⟩
  replace P_o := rblk_below P_o hb
  replace kb := bt kb hb
  have hz1 := hb.size
  clear hb
  go_wp2_with fail
  refine (HY.out _).mono ?_
  rintro e W3 ⟨b1, rfl, hc3, hc4, o2, hap2, hb⟩
  replace P_o := rblk_below P_o hb
  replace o1 := o1.below hb
  replace kb := bt kb hb
  have hz2 := hb.size
  clear hb
  have c_o0 : W3.cell? ⟨rr, 0, none⟩ = some (.bool false) := rblk_cell P_o 0
  have c_o1 : W3.cell? ⟨rr, 1, none⟩ = some (.slice none 0 0) := rblk_cell P_o 1
  have c_o2 : W3.cell? ⟨rr, 2, none⟩ = some (.slice none 0 0) := rblk_cell P_o 2
  have c_o3 : W3.cell? ⟨rr, 3, none⟩ = some (.bool false) := rblk_cell P_o 3
  have c_o4 : W3.cell? ⟨rr, 4, none⟩ = some (.slice none 0 0) := rblk_cell P_o 4
  have c_o5 : W3.cell? ⟨rr, 5, none⟩ = some (.slice none 0 0) := rblk_cell P_o 5
  have f_o0 := rblk_free P_o 0
  have f_o1 := rblk_free P_o 1
  have f_o2 := rblk_free P_o 2
  have f_o3 := rblk_free P_o 3
  have f_o4 := rblk_free P_o 4
  have f_o5 := rblk_free P_o 5
  go_wp2
  exact bodyPost_ret (v := .agg #[.bool X.p, .slice a1.A X.l.length a1.c, .slice a1.D X.m.length a1.d, .bool Y.p, .slice b1.A Y.l.length b1.c, .slice b1.D Y.m.length b1.d]) (by simp [results, Try.results14, go_sem, c_o0, c_o1, c_o2, c_o3, c_o4, c_o5]) rfl ⟨a1, b1, rfl, ⟨hc1, hc2, hc3, hc4⟩, owns_end6 (Owns.app (o1.wide (Nat.le_refl _) hz2) (o2.wide hz1 (Nat.le_refl _))) (.inl hlt0) hle0 (Nat.le_refl _) _ _ _ _ _ _, Aparts.app hap1 hap2 o1 o2, below_put6 kb hrr3 _ _ _ _ _ _⟩

end Go.Proofs.Ytjcbaiphkchehaa
