/-
  Fractions and points with their data and their addresses bundled; what the harness' functions do over fractions, in these words.
-/
import Derived.Test.YtppdholccpgcpaaGreatWg
import Derived.Test.YtppdholccpgcpaaGreatTurn
import Derived.Test.YtppdholccpgcpaaGreatPkD
namespace Go.Proofs.YtppdholccpgcpaaGreat
open Go.ChangeShapes Go.WideShapes Go.ChangeAt Go.RowKit
set_option linter.unusedVariables false
set_option linter.unusedSimpArgs false
set_option maxRecDepth 4000
structure R3 where
  p : Bool
  l : List Int
  m : List Int
structure Ad where
  A : Option Addr
  c : Nat
  D : Option Addr
  d : Nat
def rows (x : R3) (a : Ad) : List (Option Addr × List Value) := [(a.A, vi x.l), (a.D, vi x.m)]
def ofO (o : Option Rat) : R3 := ⟨qn o, ql o, qd o⟩
def noR : R3 := ⟨false, [], []⟩
def okx (x : R3) : Bool := okR x.p x.l x.m
def valx (x : R3) : Option Rat := valQ x.p x.l x.m
def FitO (o : Option Rat) : Prop := ∀ r, o = some r → Fit r
def Short (x : R3) : Prop := x.l.length ≤ 1048576 ∧ x.m.length ≤ 1048576
theorem fitO_none : FitO none := fun _ h => by cases h
theorem fitO_some {r : Rat} (h : Fit r) : FitO (some r) := fun s e => by injection e with e; rw [← e]; exact h
theorem FitO.val (x : R3) : FitO (valx x) := fun r h => (valQ_fit h).1
theorem FitO.short {o : Option Rat} (h : FitO o) : Short (ofO o) := len2 h
theorem FitO.len {o : Option Rat} (h : FitO o) : (ofO o).l.length ≤ 24 ∧ (ofO o).m.length ≤ 24 := ql_len h
theorem FitO.bin {F : Rat → Rat → Option Rat} (hF : ∀ r s t, F r s = some t → Fit t) (x y : Option Rat) : FitO (binQ F x y) := fun t h => by
  cases x with
  | none => cases h
  | some r =>
    cases y with
    | none => cases h
    | some s => exact hF r s t h
theorem valx_ofO {o : Option Rat} (h : FitO o) : valx (ofO o) = o := by
  cases o with
  | none => rfl
  | some r => exact valQ_yes (h r rfl)
theorem okx_ofO {o : Option Rat} (h : FitO o) : okx (ofO o) = o.isSome := by
  cases o with
  | none => rfl
  | some r => exact okR_mk (h r rfl)
theorem valx_no {x : R3} (h : okx x = false) : valx x = none := valQ_no h
theorem valx_yes {x : R3} (h : okx x = true) : ∃ r, valx x = some r ∧ x = ofO (some r) ∧ Fit r := by
  obtain ⟨p, l, m⟩ := x
  obtain ⟨r, rfl, rfl, rfl, hf⟩ := okR_q h
  exact ⟨r, valQ_yes hf, rfl, hf⟩
def MadeQ (B : Nat) (x : R3) (w : World) (e : Ending) (w' : World) : Prop :=
  ∃ a : Ad, e = .returned (.agg (g3 x.p a.A x.l.length a.c a.D x.m.length a.d)) ∧ x.l.length ≤ a.c ∧ x.m.length ≤ a.d ∧ Owns B w'.heap.size w' (rows x a) ∧ Aparts (rows x a) ∧ Below w.heap.size w w'
def MadeP (B : Nat) (x y : R3) (w : World) (e : Ending) (w' : World) : Prop :=
  ∃ a b : Ad, e = .returned (.agg #[.bool x.p, .slice a.A x.l.length a.c, .slice a.D x.m.length a.d, .bool y.p, .slice b.A y.l.length b.c, .slice b.D y.m.length b.d]) ∧ (x.l.length ≤ a.c ∧ x.m.length ≤ a.d ∧ y.l.length ≤ b.c ∧ y.m.length ≤ b.d) ∧ Owns B w'.heap.size w' (rows x a ++ rows y b) ∧ Aparts (rows x a ++ rows y b) ∧ Below w.heap.size w w'
theorem MadeR.toQ {B : Nat} {x : R3} {w w' : World} {e : Ending} (h : MadeR B x.p x.l x.m w e w') : MadeQ B x w e w' := by
  obtain ⟨A, c, D, d, h1, h2, h3, h4, h5, h6, h7⟩ := h
  exact ⟨⟨A, c, D, d⟩, h1, h2, h3, owns2 h4 h5 (Nat.le_refl _), Aparts.two (by simpa [vi_length] using h6), h7⟩
theorem rows_rd {w : World} {x : R3} {a : Ad} (h : Rds w (rows x a)) : RdS w a.A (vi x.l) ∧ RdS w a.D (vi x.m) := ⟨h.hd, h.tl.hd⟩
theorem rds_l {w : World} {rs ss : List (Option Addr × List Value)} (h : Rds w (rs ++ ss)) : Rds w rs := fun r hr => h r (List.mem_append_left _ hr)
theorem rds_r {w : World} {rs ss : List (Option Addr × List Value)} (h : Rds w (rs ++ ss)) : Rds w ss := fun r hr => h r (List.mem_append_right _ hr)
theorem owns_l {lo hi : Nat} {w : World} {rs ss : List (Option Addr × List Value)} (h : Owns lo hi w (rs ++ ss)) : Owns lo hi w rs := fun r hr => h r (List.mem_append_left _ hr)
def szx (x : R3) : Int := (x.l.length : Int) + (x.m.length : Int)
def Pin (a : Ad) : Prop := (∃ g, a.A = some ⟨g, 0, none⟩) ∧ ∃ g, a.D = some ⟨g, 0, none⟩
def MadeQp (B : Nat) (x : R3) (w : World) (e : Ending) (w' : World) : Prop :=
  ∃ a : Ad, Pin a ∧ e = .returned (.agg (g3 x.p a.A x.l.length a.c a.D x.m.length a.d)) ∧ x.l.length ≤ a.c ∧ x.m.length ≤ a.d ∧ Owns B w'.heap.size w' (rows x a) ∧ Aparts (rows x a) ∧ Below w.heap.size w w'
def MadePp (B : Nat) (x y : R3) (w : World) (e : Ending) (w' : World) : Prop :=
  ∃ a b : Ad, (Pin a ∧ Pin b) ∧ e = .returned (.agg #[.bool x.p, .slice a.A x.l.length a.c, .slice a.D x.m.length a.d, .bool y.p, .slice b.A y.l.length b.c, .slice b.D y.m.length b.d]) ∧ (x.l.length ≤ a.c ∧ x.m.length ≤ a.d ∧ y.l.length ≤ b.c ∧ y.m.length ≤ b.d) ∧ Owns B w'.heap.size w' (rows x a ++ rows y b) ∧ Aparts (rows x a ++ rows y b) ∧ Below w.heap.size w w'
theorem toRat_p (x : R3) (a : Ad) (w : World) (hs : Short x) (h : Rds w (rows x a)) :
    Calls Tryz.prog 112 #[.agg (g3 x.p a.A x.l.length a.c a.D x.m.length a.d)] w (MadeQp w.heap.size x w) :=
  (toRat_any x.p x.l x.m a.A a.D x.l.length a.c x.m.length a.d w rfl hs.1 (rows_rd h).1 rfl hs.2 (rows_rd h).2).mono fun e w' ⟨g, g', h1, h2, h3, ⟨mid, h4, h5⟩, h6⟩ =>
    ⟨⟨some ⟨g, 0, none⟩, x.l.length, some ⟨g', 0, none⟩, x.m.length⟩, ⟨⟨g, rfl⟩, ⟨g', rfl⟩⟩, h1, Nat.le_refl _, Nat.le_refl _, owns2 h2 h3 (Nat.le_refl _), Aparts.two (by rw [vi_length, vi_length]; exact h4.apart h5 (.inl (Nat.le_refl _))), h6⟩
theorem eqRat_r (x y : R3) (a b : Ad) (w : World) (hs : Short x) (hs' : Short y) (h : Rds w (rows x a)) (h' : Rds w (rows y b)) :
    Calls Tryz.prog 56 #[.agg (g3 x.p a.A x.l.length a.c a.D x.m.length a.d), .agg (g3 y.p b.A y.l.length b.c b.D y.m.length b.d)] w fun e w' => e = .returned (.bool (decide (x.p = y.p) && decide (x.l = y.l) && decide (x.m = y.m))) ∧ Below w.heap.size w w' :=
  have ⟨h1, h2⟩ := hs
  have ⟨h3, h4⟩ := hs'
  eqRat_any x.p y.p x.l x.m y.l y.m a.A a.D b.A b.D x.l.length x.m.length y.l.length y.m.length a.c a.d b.c b.d w rfl rfl rfl rfl (by omega) (by omega) (by omega) (by omega) (rows_rd h).1 (rows_rd h).2 (rows_rd h').1 (rows_rd h').2
theorem eqRat_t (x : R3) (a b : Ad) (w : World) (hs : Short x) (h : Rds w (rows x a)) (h' : Rds w (rows x b)) :
    Calls Tryz.prog 56 #[.agg (g3 x.p a.A x.l.length a.c a.D x.m.length a.d), .agg (g3 x.p b.A x.l.length b.c b.D x.m.length b.d)] w fun e w' => e = .returned (.bool true) ∧ Below w.heap.size w w' :=
  (eqRat_r x x a b w hs hs h h').mono fun e w' ⟨he, hb⟩ => ⟨by rw [he]; simp, hb⟩
theorem szRat_y (x : R3) (a : Ad) (left : Int) (w : World) (h0 : 0 ≤ left) (h1 : left ≤ 1048576) (h : szx x ≤ left) :
    Calls Tryz.prog 107 #[.agg (g3 x.p a.A x.l.length a.c a.D x.m.length a.d), .int .i64 left] w fun e w' => e = .returned (.int .i64 (left - szx x)) ∧ Below w.heap.size w w' := by
  unfold szx at h
  exact (szRat_yes x.p a.A a.D x.l.length a.c x.m.length a.d left w h0 h1 h).mono fun e w' ⟨he, hb⟩ => ⟨by rw [he]; unfold szx; rw [Int.sub_sub], hb⟩
theorem szRat_n (x : R3) (a : Ad) (left : Int) (w : World) (hxl : x.l.length ≤ 9223372036854775807) (hxm : x.m.length ≤ 9223372036854775807) (h0 : 0 ≤ left) (h1 : left ≤ 1048576) (h : ¬ szx x ≤ left) :
    Calls Tryz.prog 107 #[.agg (g3 x.p a.A x.l.length a.c a.D x.m.length a.d), .int .i64 left] w fun e w' => e = .returned (.int .i64 (-1)) ∧ Below w.heap.size w w' := by
  unfold szx at h
  exact szRat_no x.p a.A a.D x.l.length a.c x.m.length a.d left w h0 h1 hxl hxm h
theorem szx_pos (x : R3) : 0 ≤ szx x := by unfold szx; omega
theorem szx_short {x : R3} {left : Int} (h : szx x ≤ left) (h1 : left ≤ 1048576) : Short x := by unfold szx at h; exact ⟨by omega, by omega⟩
end Go.Proofs.YtppdholccpgcpaaGreat
