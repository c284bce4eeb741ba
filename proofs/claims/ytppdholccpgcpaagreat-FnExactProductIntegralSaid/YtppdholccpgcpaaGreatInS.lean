/-
  The sum of the products of two lists' elements: words for both.
-/
import Derived.Test.YtppdholccpgcpaaGreatRl
import Derived.Test.YtppdholccpgcpaaGreatPkI
import Derived.Test.YtppdholccpgcpaaGreatTk
import Derived.Test.YtppdholccpgcpaaGreatPtI
import Derived.Test.YtppdholccpgcpaaGreatPtK
import Derived.Test.YtppdholccpgcpaaGreatPkH
import Derived.Test.YtppdholccpgcpaaGreatPkF
import Derived.Test.YtppdholccpgcpaaGreatIsV
import Derived.Test.YtppdholccpgcpaaGreatPkE
namespace Go.Proofs.YtppdholccpgcpaaGreat
open Go.ChangeShapes Go.WideShapes Go.ChangeAt Go.RowKit
open Go.ChangeMaps (open_string shut_string)
set_option linter.unusedVariables false
set_option linter.unusedSimpArgs false
set_option maxRecDepth 4000
theorem binadd_fit (x y : Option Rat) : FitO (binQ addQ x y) := FitO.bin (fun r s t h => cutQ_fit h) x y
theorem binmul_fit (x y : Option Rat) : FitO (binQ mulQ x y) := FitO.bin (fun r s t h => cutQ_fit h) x y
theorem zeroQ_fit : FitO (some (0 : Rat)) := fitO_some ⟨by show ln 0 ≤ 24; rw [ln_zero]; omega, by show ln 1 ≤ 24; have := ln_word (show (1 : Nat) ≤ 9223372036854775808 by omega); omega⟩
theorem ofO_zero_made {B : Nat} {w w' : World} {e : Ending} (k : MadeR B (zn 0) (zm 0) (nd 1) w e w') : MadeQ B (ofO (some 0)) w e w' := MadeR.toQ (x := ofO (some 0)) k
end Go.Proofs.YtppdholccpgcpaaGreat
namespace Go.Proofs.YtppdholccpgcpaaGreat
open Go.ChangeShapes Go.WideShapes Go.ChangeAt Go.RowKit
open Go.ChangeMaps (open_string shut_string)
set_option linter.unusedVariables false
set_option linter.unusedSimpArgs false
set_option maxRecDepth 4000
attribute [local go_sem ↓] Go.wp_at_zero Go.wp_at_succ
theorem sign_r (x : Option Rat) (a : Ad) (w : World) (hx : FitO x) (h : Rds w (rows (ofO x) a)) :
    Calls Tryz.prog 72 #[.agg #[.bool (ofO x).p, .slice a.A (ofO x).l.length a.c, .slice a.D (ofO x).m.length a.d]] w (fun e w' => e = .returned (.int .i64 (sgnO x)) ∧ Below w.heap.size w w') := by
  cases x with
  | none => exact sign_any 0 a.A a.D 0 0 a.c a.d w ln_zero (by omega) (by rw [show (0 : Int).natAbs = 0 from rfl, nd_zero]; exact .inl rfl)
  | some r =>
    have hl := hx.len
    exact sign_any r.num a.A a.D _ _ a.c a.d w (nd_length _).symm (Nat.le_trans hl.1 (by omega)) (rows_rd h).1
end Go.Proofs.YtppdholccpgcpaaGreat
namespace Go.Proofs.YtppdholccpgcpaaGreat
open Go.ChangeShapes Go.WideShapes Go.ChangeAt Go.RowKit
open Go.ChangeMaps (open_string shut_string)
set_option linter.unusedVariables false
set_option linter.unusedSimpArgs false
set_option maxRecDepth 4000
attribute [local go_sem ↓] Go.wp_at_zero Go.wp_at_succ
set_option maxHeartbeats 1000000 in
theorem isLocal (L : List RV) (A : Option Addr) (c : Nat) (w : World) (hn : L.length ≤ 9223372036854775807) (hL : ∀ p, p ∈ L → LenQ p) (hA : RdS w A (flatQ L)) (hR : Rds w (lrowQ L)) :
    Calls Tryz.prog 93 #[.slice A L.length c] w (fun e w' => e = .returned (.bool (decide (L.length = 3) && validB L)) ∧ Below w.heap.size w w') := by
  have HC := Lib.hid (show Calls Tryz.prog 160 #[.slice A L.length c, .int .i64 3] w (fun e w' => e = .returned (.bool (decide (L.length = 3) && validB L)) ∧ Below w.heap.size w w') from isVector_q L A c 3 w hn (by omega) hL hA hR)
  generalize (decide (L.length = 3) && validB L) = b at HC ⊢
  generalize L.length = n at HC ⊢
  clear hn hL hA hR
  go_enter Tryz.func93, Tryz.ntmps93
  go_wp2_with fail
  refine HC.out.mono ?_
  rintro e w2 ⟨rfl, hb⟩
  go_wp2
  go_ret
  exact ⟨rfl, hb⟩
end Go.Proofs.YtppdholccpgcpaaGreat
namespace Go.Proofs.YtppdholccpgcpaaGreat
open Go.ChangeShapes Go.WideShapes Go.ChangeAt Go.RowKit
open Go.ChangeMaps (open_string shut_string)
set_option linter.unusedVariables false
set_option linter.unusedSimpArgs false
set_option maxRecDepth 4000
attribute [local go_sem ↓] Go.wp_at_zero Go.wp_at_succ
theorem specmul_r (x u : R3) (a c : Ad) (w : World) (hxl : x.l.length ≤ 9223372036854775807) (hxm : x.m.length ≤ 9223372036854775807) (hul : u.l.length ≤ 9223372036854775807) (hum : u.m.length ≤ 9223372036854775807) (h : Rds w (rows x a)) (h' : Rds w (rows u c)) :
    Calls Tryz.prog 114 #[.agg #[.bool x.p, .slice a.A x.l.length a.c, .slice a.D x.m.length a.d], .agg #[.bool u.p, .slice c.A u.l.length c.c, .slice c.D u.m.length c.d]] w (MadeQ w.heap.size (ofO (binQ mulQ (valx x) (valx u))) w) :=
  (spec_rmul x.p u.p x.l x.m u.l u.m a.A a.D c.A c.D x.l.length x.m.length u.l.length u.m.length a.c a.d c.c c.d w rfl rfl rfl rfl hxl hxm hul hum (rows_rd h).1 (rows_rd h).2 (rows_rd h').1 (rows_rd h').2).mono fun e w' k => MadeR.toQ (x := ofO (binQ mulQ (valx x) (valx u))) k
theorem specadd_o (x u : Option Rat) (a c : Ad) (w : World) (hx : FitO x) (hu : FitO u) (h : Rds w (rows (ofO x) a)) (h' : Rds w (rows (ofO u) c)) :
    Calls Tryz.prog 120 #[.agg #[.bool (ofO x).p, .slice a.A (ofO x).l.length a.c, .slice a.D (ofO x).m.length a.d], .agg #[.bool (ofO u).p, .slice c.A (ofO u).l.length c.c, .slice c.D (ofO u).m.length c.d]] w (MadeQ w.heap.size (ofO (binQ addQ x u)) w) := by
  have l1 := hx.len
  have l2 := hu.len
  have k := (spec_radd (ofO x).p (ofO u).p (ofO x).l (ofO x).m (ofO u).l (ofO u).m a.A a.D c.A c.D _ _ _ _ a.c a.d c.c c.d w rfl rfl rfl rfl (by omega) (by omega) (by omega) (by omega) (rows_rd h).1 (rows_rd h).2 (rows_rd h').1 (rows_rd h').2).mono fun e w' k => MadeR.toQ (x := ofO (binQ addQ (valx (ofO x)) (valx (ofO u)))) k
  rw [valx_ofO hx, valx_ofO hu] at k
  exact k
end Go.Proofs.YtppdholccpgcpaaGreat
