/-
  The longest side's square, the shape: words for both.
-/
import Derived.Test.YtaohiacpdljacaaGreatShB
import Derived.Test.YtaohiacpdljacaaGreatPkH
import Derived.Test.YtaohiacpdljacaaGreatPkJ
import Derived.Test.YtaohiacpdljacaaGreatPkI
import Derived.Test.YtaohiacpdljacaaGreatTriA
namespace Go.Proofs.YtaohiacpdljacaaGreat
open Go.ChangeShapes Go.WideShapes Go.ChangeAt Go.RowKit
open Go.ChangeMaps (open_string shut_string)
set_option linter.unusedVariables false
set_option linter.unusedSimpArgs false
set_option maxRecDepth 4000

theorem maxO_fit {x y : Option Rat} (hx : FitO x) (hy : FitO y) : FitO (binQ maxQ x y) := fun t h => by
  cases x with
  | none => cases h
  | some r =>
    cases y with
    | none => cases h
    | some s =>
      have h' : maxQ r s = some t := h
      unfold maxQ at h'
      split at h'
      · injection h' with e; rw [← e]; exact hx r rfl
      · injection h' with e; rw [← e]; exact hy s rfl
theorem quoO_fit (x y : Option Rat) : FitO (binQ quoQ x y) := FitO.bin (fun r s t h => by
  unfold quoQ at h
  split at h
  · cases h
  · exact cutQ_fit h) x y
def long1 (p q : PV) : Option Rat := binQ maxQ (some 0) (sqO p q)
def long2 (p q r : PV) : Option Rat := binQ maxQ (long1 p q) (sqO q r)
def long3 (p q r : PV) : Option Rat := binQ maxQ (long2 p q r) (sqO r p)
def shapeO (L : List PV) : Option Rat := binQ quoQ (aT L) (long3 (tri1 L) (tri2 L) (tri3 L))
theorem fit_zero : FitO (some (0 : Rat)) := fitO_some ⟨by show ln 0 ≤ 24; rw [ln_zero]; omega, by show ln 1 ≤ 24; have := ln_word (show (1 : Nat) ≤ 9223372036854775808 by omega); omega⟩
theorem impl_max_r (x u : R3) (a c : Ad) (w : World) (hxl : x.l.length ≤ 9223372036854775807) (hxm : x.m.length ≤ 9223372036854775807) (hul : u.l.length ≤ 9223372036854775807) (hum : u.m.length ≤ 9223372036854775807) (h : Rds w (rows x a)) (h' : Rds w (rows u c)) :
    Calls Tryz.prog 66 #[.agg #[.bool x.p, .slice a.A x.l.length a.c, .slice a.D x.m.length a.d], .agg #[.bool u.p, .slice c.A u.l.length c.c, .slice c.D u.m.length c.d]] w (MadeQ w.heap.size (ofO (binQ maxQ (valx x) (valx u))) w) :=
  (impl_rmax x.p u.p x.l x.m u.l u.m a.A a.D c.A c.D _ _ _ _ a.c a.d c.c c.d w rfl rfl rfl rfl hxl hxm hul hum (rows_rd h).1 (rows_rd h).2 (rows_rd h').1 (rows_rd h').2).mono fun e w' k => MadeR.toQ (x := ofO (binQ maxQ (valx x) (valx u))) k
theorem spec_max_r (x u : R3) (a c : Ad) (w : World) (hxl : x.l.length ≤ 9223372036854775807) (hxm : x.m.length ≤ 9223372036854775807) (hul : u.l.length ≤ 9223372036854775807) (hum : u.m.length ≤ 9223372036854775807) (h : Rds w (rows x a)) (h' : Rds w (rows u c)) :
    Calls Tryz.prog 45 #[.agg #[.bool x.p, .slice a.A x.l.length a.c, .slice a.D x.m.length a.d], .agg #[.bool u.p, .slice c.A u.l.length c.c, .slice c.D u.m.length c.d]] w (MadeQ w.heap.size (ofO (binQ maxQ (valx x) (valx u))) w) :=
  (spec_rmax x.p u.p x.l x.m u.l u.m a.A a.D c.A c.D _ _ _ _ a.c a.d c.c c.d w rfl rfl rfl rfl hxl hxm hul hum (rows_rd h).1 (rows_rd h).2 (rows_rd h').1 (rows_rd h').2).mono fun e w' k => MadeR.toQ (x := ofO (binQ maxQ (valx x) (valx u))) k
theorem spec_div_r (x u : R3) (a c : Ad) (w : World) (hxl : x.l.length ≤ 9223372036854775807) (hxm : x.m.length ≤ 9223372036854775807) (hul : u.l.length ≤ 9223372036854775807) (hum : u.m.length ≤ 9223372036854775807) (kx : x.l.length ≤ a.c ∧ x.m.length ≤ a.d) (ku : u.l.length ≤ c.c ∧ u.m.length ≤ c.d) (h : Rds w (rows x a)) (h' : Rds w (rows u c)) :
    Calls Tryz.prog 46 #[.agg #[.bool x.p, .slice a.A x.l.length a.c, .slice a.D x.m.length a.d], .agg #[.bool u.p, .slice c.A u.l.length c.c, .slice c.D u.m.length c.d]] w (MadeQ w.heap.size (ofO (binQ quoQ (valx x) (valx u))) w) :=
  (spec_rdiv x.p u.p x.l x.m u.l u.m a.A a.D c.A c.D _ _ _ _ a.c a.d c.c c.d w rfl rfl rfl rfl hxl hxm hul hum kx.1 kx.2 ku.1 ku.2 (rows_rd h).1 (rows_rd h).2 (rows_rd h').1 (rows_rd h').2).mono fun e w' k => MadeR.toQ (x := ofO (binQ quoQ (valx x) (valx u))) k
theorem max_o (x u : Option Rat) (a c : Ad) (w : World) (hx : FitO x) (hu : FitO u) (h : Rds w (rows (ofO x) a)) (h' : Rds w (rows (ofO u) c)) :
    Calls Tryz.prog 66 #[.agg #[.bool (ofO x).p, .slice a.A (ofO x).l.length a.c, .slice a.D (ofO x).m.length a.d], .agg #[.bool (ofO u).p, .slice c.A (ofO u).l.length c.c, .slice c.D (ofO u).m.length c.d]] w (MadeQ w.heap.size (ofO (binQ maxQ x u)) w) := by
  have k := impl_max_r (ofO x) (ofO u) a c w (Nat.le_trans hx.len.1 (by omega)) (Nat.le_trans hx.len.2 (by omega)) (Nat.le_trans hu.len.1 (by omega)) (Nat.le_trans hu.len.2 (by omega)) h h'
  rw [valx_ofO hx, valx_ofO hu] at k
  exact k
theorem spec_max_o (x u : Option Rat) (a c : Ad) (w : World) (hx : FitO x) (hu : FitO u) (h : Rds w (rows (ofO x) a)) (h' : Rds w (rows (ofO u) c)) :
    Calls Tryz.prog 45 #[.agg #[.bool (ofO x).p, .slice a.A (ofO x).l.length a.c, .slice a.D (ofO x).m.length a.d], .agg #[.bool (ofO u).p, .slice c.A (ofO u).l.length c.c, .slice c.D (ofO u).m.length c.d]] w (MadeQ w.heap.size (ofO (binQ maxQ x u)) w) := by
  have k := spec_max_r (ofO x) (ofO u) a c w (Nat.le_trans hx.len.1 (by omega)) (Nat.le_trans hx.len.2 (by omega)) (Nat.le_trans hu.len.1 (by omega)) (Nat.le_trans hu.len.2 (by omega)) h h'
  rw [valx_ofO hx, valx_ofO hu] at k
  exact k
end Go.Proofs.YtaohiacpdljacaaGreat

