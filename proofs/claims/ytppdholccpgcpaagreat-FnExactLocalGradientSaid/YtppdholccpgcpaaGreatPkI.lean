/-
  Fractions of the program and of the model: 'RatMake', 'RatOf', 'RatFromInt'.
-/
import Derived.Test.YtppdholccpgcpaaGreatWg
import Derived.Test.YtppdholccpgcpaaGreatPkH
import Derived.Test.YtppdholccpgcpaaGreatPkD
import Derived.Test.YtppdholccpgcpaaGreatShelf
namespace Go.Proofs.YtppdholccpgcpaaGreat
open Go.ChangeShapes Go.WideShapes Go.ChangeAt Go.RowKit
set_option linter.unusedVariables false
set_option linter.unusedSimpArgs false
set_option maxRecDepth 4000
attribute [local go_sem ↓] Go.wp_at_zero Go.wp_at_succ
end Go.Proofs.YtppdholccpgcpaaGreat
namespace Go.Proofs.YtppdholccpgcpaaGreat
open Go.ChangeShapes Go.WideShapes Go.ChangeAt Go.RowKit
set_option linter.unusedVariables false
set_option linter.unusedSimpArgs false
set_option maxRecDepth 4000
attribute [local go_sem ↓] Go.wp_at_zero Go.wp_at_succ
set_option maxHeartbeats 1000000 in
theorem impl_rfi (x : Int) (w : World) (h0 : -9223372036854775808 ≤ x ∧ x ≤ 9223372036854775807) :
    Calls Tryz.prog 22 #[.int .i64 x] w (MadeR w.heap.size (zn x) (zm x) (nd 1) w) := by
  have B1 := Lib.hid (fun W => impl_bof x W h0.1 h0.2)
  unfold MadeZ MadeB at B1
  have B2 := Lib.hid (fun W => show Calls Tryz.prog 80 #[.int .i64 1] W (MadeI W.heap.size (nd 1) W) from impl_natOf_int 1 W (by decide))
  generalize nd 1 = M at B2 ⊢
  generalize zm x = L at *
  generalize zn x = sg at *
  clear h0
  go_enter Tryz.func22, Tryz.ntmps22
  go_wp2_with fail
  have kb := ba1 w (.cells z3 29)
  have P_o := heap_alloc_new w (.cells z3 29)
  generalize w.alloc (.cells z3 29) = W1 at kb P_o ⊢
  have hlo := rblk_lt P_o
  refine (B1.out _).mono ?_
  rintro e W2 ⟨A1, c1, rfl, hc1, o1, hb⟩
  replace P_o := rblk_below P_o hb
  replace kb := bt kb hb
  clear hb
  go_wp2_with fail
  have hlp := rblk_lt P_o
  have i1 := o1.inR (vi_length L)
  refine (B2.out _).mono ?_
  rintro e W3 ⟨A2, c2, rfl, hc2, o2, hb⟩
  replace P_o := rblk_below P_o hb
  replace o1 := o1.below hb
  replace kb := bt kb hb
  clear hb
  have hap := i1.apart (o2.inR (vi_length M)) (.inl (Nat.le_refl _))
  have c_o0 := rblk_cell P_o 0
  have c_o1 := rblk_cell P_o 1
  have c_o2 := rblk_cell P_o 2
  have f_o0 := rblk_free P_o 0
  have f_o1 := rblk_free P_o 1
  have f_o2 := rblk_free P_o 2
  go_wp2
  exact bodyPost_ret (v := .agg (g3 sg A1 L.length c1 A2 M.length c2)) (by simp [results, Tryz.results22, go_sem, c_o0, c_o1, c_o2]) rfl ⟨A1, c1, A2, c2, rfl, hc1, hc2, (own_put3 o1 hlo _ _ _).more (Nat.le_of_lt hlo), (own_put3 o2 hlp _ _ _).more (Nat.le_of_lt hlp), hap, below_put3 kb (Nat.le_refl _) _ _ _⟩
theorem own_u {w : World} {g : Nat} {T : TypeId} {x : Int} (P : w.heap[g]? = some (.cells #[.int .i64 x] T (0, 0))) : OwnS g w (some ⟨g, 0, none⟩) (vi [x]) :=
  .inr ⟨g, rfl, Nat.le_refl _, rblk_lt P, fun j hj => by
    have hj' : j = 0 := by simp [vi] at hj; exact hj
    subst hj'
    rw [rblk_cell P 0]
    rfl, fun j hj => rblk_free P j⟩
theorem own_u3 {W : World} {g : Nat} {T : TypeId} {x : Int} (u0 u1 u2 : Value) : OwnS W.heap.size ((((W.setCell ⟨g, 0, none⟩ u0).setCell ⟨g, 1, none⟩ u1).setCell ⟨g, 2, none⟩ u2).alloc (.cells #[.int .i64 x] T)) (some ⟨W.heap.size, 0, none⟩) (vi [x]) := by
  have h := heap_alloc_new (((W.setCell ⟨g, 0, none⟩ u0).setCell ⟨g, 1, none⟩ u1).setCell ⟨g, 2, none⟩ u2) (.cells #[.int .i64 x] T)
  rw [put_size, put_size, put_size] at h
  exact own_u h
set_option maxHeartbeats 1000000 in
theorem spec_rfi (x : Int) (w : World) (h0 : -9223372036854775808 ≤ x ∧ x ≤ 9223372036854775807) :
    Calls Tryz.prog 119 #[.int .i64 x] w (MadeR w.heap.size (zn x) (zm x) (nd 1) w) := by
  have B1 := Lib.hid (fun W => spec_bof x W h0.1 h0.2)
  unfold MadeZ MadeB at B1
  rw [nd_one]
  generalize zm x = L at *
  generalize zn x = sg at *
  clear h0
  go_enter Tryz.func119, Tryz.ntmps119
  go_wp2_with fail
  have kb := ba1 w (.cells z3 29)
  have P_o := heap_alloc_new w (.cells z3 29)
  generalize w.alloc (.cells z3 29) = W1 at kb P_o ⊢
  have hlo := rblk_lt P_o
  refine (B1.out _).mono ?_
  rintro e W2 ⟨A1, c1, rfl, hc1, o1, hb⟩
  replace P_o := rblk_below P_o hb
  replace kb := bt kb hb
  clear hb
  have hlp := rblk_lt P_o
  have i1 := o1.inR (vi_length L)
  have d_o0 := rblk_cell P_o 0
  have d_o1 := rblk_cell P_o 1
  have d_o2 := rblk_cell P_o 2
  have e_o0 := rblk_free P_o 0
  have e_o1 := rblk_free P_o 1
  have e_o2 := rblk_free P_o 2
  have x0 : Hid (((((W2.setCell ⟨w.heap.size, 0, none⟩ (.bool sg)).setCell ⟨w.heap.size, 1, none⟩ (.slice A1 L.length c1)).setCell ⟨w.heap.size, 2, none⟩ (.slice (some ⟨W2.heap.size, 0, none⟩) 1 1)).alloc (.cells #[.int .i64 1] 3)).cell? ⟨w.heap.size, 0, none⟩ = some (.bool sg)) := Lib.hid (rblk_cell (rblk_below (rblk_set (rblk_set (rblk_set P_o 0 (.bool sg)) 1 (.slice A1 L.length c1)) 2 (.slice (some ⟨W2.heap.size, 0, none⟩) 1 1)) (ba1 _ (.cells #[.int .i64 1] 3))) 0)
  have x1 : Hid (((((W2.setCell ⟨w.heap.size, 0, none⟩ (.bool sg)).setCell ⟨w.heap.size, 1, none⟩ (.slice A1 L.length c1)).setCell ⟨w.heap.size, 2, none⟩ (.slice (some ⟨W2.heap.size, 0, none⟩) 1 1)).alloc (.cells #[.int .i64 1] 3)).cell? ⟨w.heap.size, 1, none⟩ = some (.slice A1 L.length c1)) := Lib.hid (rblk_cell (rblk_below (rblk_set (rblk_set (rblk_set P_o 0 (.bool sg)) 1 (.slice A1 L.length c1)) 2 (.slice (some ⟨W2.heap.size, 0, none⟩) 1 1)) (ba1 _ (.cells #[.int .i64 1] 3))) 1)
  have x2 : Hid (((((W2.setCell ⟨w.heap.size, 0, none⟩ (.bool sg)).setCell ⟨w.heap.size, 1, none⟩ (.slice A1 L.length c1)).setCell ⟨w.heap.size, 2, none⟩ (.slice (some ⟨W2.heap.size, 0, none⟩) 1 1)).alloc (.cells #[.int .i64 1] 3)).cell? ⟨w.heap.size, 2, none⟩ = some (.slice (some ⟨W2.heap.size, 0, none⟩) 1 1)) := Lib.hid (rblk_cell (rblk_below (rblk_set (rblk_set (rblk_set P_o 0 (.bool sg)) 1 (.slice A1 L.length c1)) 2 (.slice (some ⟨W2.heap.size, 0, none⟩) 1 1)) (ba1 _ (.cells #[.int .i64 1] 3))) 2)
  go_wp2
  exact bodyPost_ret (v := .agg #[.bool sg, .slice A1 L.length c1, .slice (some ⟨W2.heap.size, 0, none⟩) 1 1]) (by simp [results, Tryz.results119, go_sem, x0.out, x1.out, x2.out]) rfl ⟨A1, c1, some ⟨W2.heap.size, 0, none⟩, 1, rfl, hc1, Nat.le_refl _, ((own_put3 o1 hlo _ _ _).below (ba1 _ _)).more (Nat.le_of_lt hlo), (own_u3 _ _ _).more (Nat.le_of_lt hlp), i1.apart ((own_u3 (g := w.heap.size) (W := W2) (T := 3) (x := 1) (.bool false) (.bool false) (.bool false)).inR (n := 1) rfl) (.inl (Nat.le_refl _)), bt (below_put3 kb (Nat.le_refl _) _ _ _) (ba1 _ _)⟩
end Go.Proofs.YtppdholccpgcpaaGreat
