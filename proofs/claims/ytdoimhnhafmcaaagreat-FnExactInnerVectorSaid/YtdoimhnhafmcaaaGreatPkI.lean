/-
  Fractions of the program and of the model: 'RatMake', 'RatOf', 'RatFromInt'.
-/
import Derived.Test.YtdoimhnhafmcaaaGreatPkH
import Derived.Test.YtdoimhnhafmcaaaGreatPkD
import Derived.Test.YtdoimhnhafmcaaaGreatShelf
namespace Go.Proofs.YtdoimhnhafmcaaaGreat
open Go.ChangeShapes Go.WideShapes Go.ChangeAt Go.RowKit
open Go.ChangeMaps (open_string shut_string)
set_option linter.unusedVariables false
set_option linter.unusedSimpArgs false
set_option maxRecDepth 4000

attribute [local go_sem ↓] Go.wp_at_zero Go.wp_at_succ

/-- What 'RatMake' answers. -/
def makQ (p : Bool) (l : List Int) (q : Bool) (l' : List Int) : Option Rat := if okB p l && okB q l' then lowQ (!(p == q)) (val l) (val l') else none
theorem makQ_no {p q : Bool} {l l' : List Int} (h : (okB p l && okB q l') = false) : makQ p l q l' = none := by unfold makQ; rw [h]; rfl
theorem makQ_yes {x y : Int} (h : ln x.natAbs ≤ 60) (h' : ln y.natAbs ≤ 60) : makQ (zn x) (zm x) (zn y) (zm y) = lowQ (!(zn x == zn y)) x.natAbs y.natAbs := by
  unfold makQ
  rw [okB_mk h, okB_mk h', val_zm, val_zm]
  rfl
theorem lowQ_fit {s : Bool} {a b : Nat} {t : Rat} (h : lowQ s a b = some t) : Fit t := by
  unfold lowQ at h
  split at h
  · cases h
  · exact cutQ_fit h
theorem makQ_len (p q : Bool) (l l' : List Int) : (ql (makQ p l q l')).length ≤ 1048576 ∧ (qd (makQ p l q l')).length ≤ 1048576 := by
  refine len2 fun t ht => ?_
  unfold makQ at ht
  split at ht
  · exact lowQ_fit ht
  · cases ht

/-- What 'RatOf' answers. -/
def ofQ (x y : Int) : Option Rat := makQ (zn x) (zm x) (zn y) (zm y)
end Go.Proofs.YtdoimhnhafmcaaaGreat

namespace Go.Proofs.YtdoimhnhafmcaaaGreat
open Go.ChangeShapes Go.WideShapes Go.ChangeAt Go.RowKit
open Go.ChangeMaps (open_string shut_string)
set_option linter.unusedVariables false
set_option linter.unusedSimpArgs false
set_option maxRecDepth 4000

attribute [local go_sem ↓] Go.wp_at_zero Go.wp_at_succ

set_option maxHeartbeats 1000000 in
theorem impl_rfi (x : Int) (w : World) (h0 : -9223372036854775808 ≤ x ∧ x ≤ 9223372036854775807) :
    Calls Tryz.prog 19 #[.int .i64 x] w (MadeR w.heap.size (zn x) (zm x) (nd 1) w) := by
  have B1 := Lib.hid (fun W => impl_bof x W h0.1 h0.2)
  unfold MadeZ MadeB at B1
  have B2 := Lib.hid (fun W => show Calls Tryz.prog 40 #[.int .i64 1] W (MadeI W.heap.size (nd 1) W) from impl_natOf_int 1 W (by decide))
  generalize nd 1 = M at B2 ⊢
  generalize zm x = L at *
  generalize zn x = sg at *
  clear h0
  go_enter Tryz.func19, Tryz.ntmps19
  go_wp2_with fail
  have kb := ba1 w (.cells #[.bool false, .slice none 0 0, .slice none 0 0] 28)
  have P_o := heap_alloc_new w (.cells #[.bool false, .slice none 0 0, .slice none 0 0] 28)
  generalize w.alloc (.cells #[.bool false, .slice none 0 0, .slice none 0 0] 28) = W1 at kb P_o ⊢
  have hlo := rblk_lt P_o
  refine (B1.out _).mono ?_
  rintro e W2 ⟨A1, c1, rfl, hc1, o1, hb⟩
  replace P_o := rblk_below P_o hb
  replace kb := bt kb hb
  clear hb
  go_wp2_with fail
  have hlp := rblk_lt P_o
  have i1 := o1.inR (vi_length L)
  refine (B2.out _).mono ?_
  rintro e W3 ⟨A2, c2, rfl, hc2, o2, hb⟩
  replace P_o := rblk_below P_o hb
  replace o1 := o1.below hb
  replace kb := bt kb hb
  clear hb
  have hap := i1.apart (o2.inR (vi_length M)) (.inl (Nat.le_refl _))
  have c_o0 : W3.cell? ⟨w.heap.size, 0, none⟩ = some (.bool false) := rblk_cell P_o 0
  have c_o1 : W3.cell? ⟨w.heap.size, 1, none⟩ = some (.slice none 0 0) := rblk_cell P_o 1
  have c_o2 : W3.cell? ⟨w.heap.size, 2, none⟩ = some (.slice none 0 0) := rblk_cell P_o 2
  have f_o0 := rblk_free P_o 0
  have f_o1 := rblk_free P_o 1
  have f_o2 := rblk_free P_o 2
  go_wp2
  exact bodyPost_ret (v := .agg #[.bool sg, .slice A1 L.length c1, .slice A2 M.length c2]) (by simp [results, Tryz.results19, go_sem, c_o0, c_o1, c_o2]) rfl ⟨A1, c1, A2, c2, rfl, hc1, hc2, (own_put3 o1 hlo _ _ _).more (Nat.le_of_lt hlo), (own_put3 o2 hlp _ _ _).more (Nat.le_of_lt hlp), hap, below_put3 kb (Nat.le_refl _) _ _ _⟩

theorem own_u {w : World} {g : Nat} {T : TypeId} {x : Int} (P : w.heap[g]? = some (.cells #[.int .i64 x] T (0, 0))) : OwnS g w (some ⟨g, 0, none⟩) (vi [x]) :=
  .inr ⟨g, rfl, Nat.le_refl _, rblk_lt P, fun j hj => by
    have hj' : j = 0 := by simp [vi] at hj; exact hj
    subst hj'
    rw [rblk_cell P 0]
    rfl, fun j hj => rblk_free P j⟩
theorem own_u3 {W : World} {g : Nat} {T : TypeId} {x : Int} (u0 u1 u2 : Value) : OwnS W.heap.size ((((W.setCell ⟨g, 0, none⟩ u0).setCell ⟨g, 1, none⟩ u1).setCell ⟨g, 2, none⟩ u2).alloc (.cells #[.int .i64 x] T)) (some ⟨W.heap.size, 0, none⟩) (vi [x]) := by
  have h := heap_alloc_new (((W.setCell ⟨g, 0, none⟩ u0).setCell ⟨g, 1, none⟩ u1).setCell ⟨g, 2, none⟩ u2) (.cells #[.int .i64 x] T)
  rw [put_size, put_size, put_size] at h
  exact own_u h
set_option maxHeartbeats 1000000 in
theorem spec_rfi (x : Int) (w : World) (h0 : -9223372036854775808 ≤ x ∧ x ≤ 9223372036854775807) :
    Calls Tryz.prog 14 #[.int .i64 x] w (MadeR w.heap.size (zn x) (zm x) (nd 1) w) := by
  have B1 := Lib.hid (fun W => spec_bof x W h0.1 h0.2)
  unfold MadeZ MadeB at B1
  rw [nd_one]
  generalize zm x = L at *
  generalize zn x = sg at *
  clear h0
  go_enter Tryz.func14, Tryz.ntmps14
  go_wp2_with fail
  have kb := ba1 w (.cells #[.bool false, .slice none 0 0, .slice none 0 0] 28)
  have P_o := heap_alloc_new w (.cells #[.bool false, .slice none 0 0, .slice none 0 0] 28)
  generalize w.alloc (.cells #[.bool false, .slice none 0 0, .slice none 0 0] 28) = W1 at kb P_o ⊢
  have hlo := rblk_lt P_o
  refine (B1.out _).mono ?_
  rintro e W2 ⟨A1, c1, rfl, hc1, o1, hb⟩
  replace P_o := rblk_below P_o hb
  replace kb := bt kb hb
  clear hb
  have hlp := rblk_lt P_o
  have i1 := o1.inR (vi_length L)
  have d_o0 : W2.cell? ⟨w.heap.size, 0, none⟩ = some (.bool false) := rblk_cell P_o 0
  have d_o1 : W2.cell? ⟨w.heap.size, 1, none⟩ = some (.slice none 0 0) := rblk_cell P_o 1
  have d_o2 : W2.cell? ⟨w.heap.size, 2, none⟩ = some (.slice none 0 0) := rblk_cell P_o 2
  have e_o0 := rblk_free P_o 0
  have e_o1 := rblk_free P_o 1
  have e_o2 := rblk_free P_o 2
  have x0 : Hid (((((W2.setCell ⟨w.heap.size, 0, none⟩ (.bool sg)).setCell ⟨w.heap.size, 1, none⟩ (.slice A1 L.length c1)).setCell ⟨w.heap.size, 2, none⟩ (.slice (some ⟨W2.heap.size, 0, none⟩) 1 1)).alloc (.cells #[.int .i64 1] 3)).cell? ⟨w.heap.size, 0, none⟩ = some (.bool sg)) := Lib.hid (rblk_cell (rblk_below (rblk_set (rblk_set (rblk_set P_o 0 (.bool sg)) 1 (.slice A1 L.length c1)) 2 (.slice (some ⟨W2.heap.size, 0, none⟩) 1 1)) (ba1 _ (.cells #[.int .i64 1] 3))) 0)
  have x1 : Hid (((((W2.setCell ⟨w.heap.size, 0, none⟩ (.bool sg)).setCell ⟨w.heap.size, 1, none⟩ (.slice A1 L.length c1)).setCell ⟨w.heap.size, 2, none⟩ (.slice (some ⟨W2.heap.size, 0, none⟩) 1 1)).alloc (.cells #[.int .i64 1] 3)).cell? ⟨w.heap.size, 1, none⟩ = some (.slice A1 L.length c1)) := Lib.hid (rblk_cell (rblk_below (rblk_set (rblk_set (rblk_set P_o 0 (.bool sg)) 1 (.slice A1 L.length c1)) 2 (.slice (some ⟨W2.heap.size, 0, none⟩) 1 1)) (ba1 _ (.cells #[.int .i64 1] 3))) 1)
  have x2 : Hid (((((W2.setCell ⟨w.heap.size, 0, none⟩ (.bool sg)).setCell ⟨w.heap.size, 1, none⟩ (.slice A1 L.length c1)).setCell ⟨w.heap.size, 2, none⟩ (.slice (some ⟨W2.heap.size, 0, none⟩) 1 1)).alloc (.cells #[.int .i64 1] 3)).cell? ⟨w.heap.size, 2, none⟩ = some (.slice (some ⟨W2.heap.size, 0, none⟩) 1 1)) := Lib.hid (rblk_cell (rblk_below (rblk_set (rblk_set (rblk_set P_o 0 (.bool sg)) 1 (.slice A1 L.length c1)) 2 (.slice (some ⟨W2.heap.size, 0, none⟩) 1 1)) (ba1 _ (.cells #[.int .i64 1] 3))) 2)
  go_wp2
  exact bodyPost_ret (v := .agg #[.bool sg, .slice A1 L.length c1, .slice (some ⟨W2.heap.size, 0, none⟩) 1 1]) (by simp [results, Tryz.results14, go_sem, x0.out, x1.out, x2.out]) rfl ⟨A1, c1, some ⟨W2.heap.size, 0, none⟩, 1, rfl, hc1, Nat.le_refl _, ((own_put3 o1 hlo _ _ _).below (ba1 _ _)).more (Nat.le_of_lt hlo), (own_u3 _ _ _).more (Nat.le_of_lt hlp), i1.apart ((own_u3 (g := w.heap.size) (W := W2) (T := 3) (x := 1) (.bool false) (.bool false) (.bool false)).inR (n := 1) rfl) (.inl (Nat.le_refl _)), bt (below_put3 kb (Nat.le_refl _) _ _ _) (ba1 _ _)⟩

end Go.Proofs.YtdoimhnhafmcaaaGreat

