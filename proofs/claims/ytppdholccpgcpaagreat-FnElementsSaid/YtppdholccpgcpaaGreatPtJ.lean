/-
  Points of the program: 'IsValidPoint', 'SamePoint', 'PointAt', 'HalfPoint', 'AddPoints', 'ScalePoint', 'Inner'.
-/
import Derived.Test.YtppdholccpgcpaaGreatLawP
import Derived.Test.YtppdholccpgcpaaGreatPtI
import Derived.Test.YtppdholccpgcpaaGreatPkI
namespace Go.Proofs.YtppdholccpgcpaaGreat
open Go.ChangeShapes Go.WideShapes Go.ChangeAt Go.RowKit
set_option linter.unusedVariables false
set_option linter.unusedSimpArgs false
set_option maxRecDepth 4000
attribute [local go_sem ↓] Go.wp_at_zero Go.wp_at_succ
theorem both_no {F G : Rat → Rat → Option Rat} {x y u v : R3} (h : (okx x && okx y && (okx u && okx v)) = false) : bothX (binQ F (valx x) (valx u)) (binQ G (valx y) (valx v)) = none ∧ bothY (binQ F (valx x) (valx u)) (binQ G (valx y) (valx v)) = none := by
  have n1 : ∀ (F : Rat → Rat → Option Rat) (o : Option Rat), binQ F none o = none := fun F o => by cases o <;> rfl
  have n2 : ∀ (F : Rat → Rat → Option Rat) (o : Option Rat), binQ F o none = none := fun F o => by cases o <;> rfl
  simp only [Bool.and_eq_false_iff] at h
  rcases h with (h | h) | h | h
  · rw [valx_no h, n1]; exact both_n1 _
  · rw [valx_no h, n1]; exact both_n2 _
  · rw [valx_no h, n2]; exact both_n1 _
  · rw [valx_no h, n2]; exact both_n2 _
theorem bin_n1 (F : Rat → Rat → Option Rat) (o : Option Rat) : binQ F none o = none := by cases o <;> rfl
theorem bin_n2 (F : Rat → Rat → Option Rat) (o : Option Rat) : binQ F o none = none := by cases o <;> rfl
def rfi (x : Int) : R3 := ⟨zn x, zm x, nd 1⟩
theorem ofQ_fit (x y : Int) : FitO (ofQ x y) := by
  unfold ofQ makQ
  split
  · exact fun r h => lowQ_fit h
  · exact fitO_none
set_option maxHeartbeats 1000000 in
theorem impl_valid (x y : R3) (a b : Ad) (w : World) (hxl : x.l.length ≤ 9223372036854775807) (hxm : x.m.length ≤ 9223372036854775807) (hyl : y.l.length ≤ 9223372036854775807) (hym : y.m.length ≤ 9223372036854775807) (h : Rds w (rows x a ++ rows y b)) :
    Calls Tryz.prog 62 #[.agg (r6 x y a b)] w (fun e w' => e = .returned (.bool (okx x && okx y)) ∧ Below w.heap.size w w') := by
  have H := Lib.hid (fun W h1 h2 h3 h4 => show Calls Tryz.prog 77 #[.agg (r3 x a), .agg (r3 y b)] W (fun e w' => e = .returned (.bool (okx x && okx y)) ∧ Below W.heap.size W w') from are_rats x.p y.p x.l x.m y.l y.m a.A a.D b.A b.D x.l.length x.m.length y.l.length y.m.length a.c a.d b.c b.d W rfl rfl rfl rfl hxl hxm hyl hym h1 h2 h3 h4)
  have RR : Hid (∀ W, Below w.heap.size w W → (RdS W a.A (vi x.l) ∧ RdS W a.D (vi x.m)) ∧ RdS W b.A (vi y.l) ∧ RdS W b.D (vi y.m)) := Lib.hid (fun W hb => ⟨rows_rd ((rds_l h).below hb), rows_rd ((rds_r h).below hb)⟩)
  clear h hxl hxm hyl hym
  generalize (okx x && okx y) = r at H ⊢
  go_enter Tryz.func62, Tryz.ntmps62
  go_wp2_with fail
  have kb := ba1 w (.cells (r6 x y a b) 31)
  have P_p := heap_alloc_new w (.cells (r6 x y a b) 31)
  generalize w.alloc (.cells (r6 x y a b) 31) = W1 at kb P_p ⊢
  refine (H.out _ (RR.out _ kb).1.1 (RR.out _ kb).1.2 (RR.out _ kb).2.1 (RR.out _ kb).2.2).mono ?_
  rintro e W2 ⟨rfl, hb⟩
  replace P_p := rblk_below P_p hb
  replace kb := bt kb hb
  clear hb
  go_wp2
  go_ret
  exact ⟨rfl, kb⟩
end Go.Proofs.YtppdholccpgcpaaGreat
