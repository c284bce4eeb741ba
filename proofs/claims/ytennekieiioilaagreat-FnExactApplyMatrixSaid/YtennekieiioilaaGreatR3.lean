/-
  Fractions and points with their data and their addresses bundled; what the harness' functions do over fractions, in these words.
-/
import Derived.Test.YtennekieiioilaaGreatTurn
import Derived.Test.YtennekieiioilaaGreatPkD
namespace Go.Proofs.YtennekieiioilaaGreat
open Go.ChangeShapes Go.WideShapes Go.ChangeAt Go.RowKit
open Go.ChangeMaps (open_string shut_string)
set_option linter.unusedVariables false
set_option linter.unusedSimpArgs false
set_option maxRecDepth 4000

/-- A fraction's data: sign, numerator's limbs, denominator's limbs. -/
structure R3 where
  p : Bool
  l : List Int
  m : List Int
/-- Where its rows lie, and their capacities. -/
structure Ad where
  A : Option Addr
  c : Nat
  D : Option Addr
  d : Nat
def rows (x : R3) (a : Ad) : List (Option Addr × List Value) := [(a.A, vi x.l), (a.D, vi x.m)]
/-- The data of a fraction, or of none. -/
def ofO (o : Option Rat) : R3 := ⟨qn o, ql o, qd o⟩
def noR : R3 := ⟨false, [], []⟩
theorem ofO_none : ofO none = noR := rfl
def okx (x : R3) : Bool := okR x.p x.l x.m
def valx (x : R3) : Option Rat := valQ x.p x.l x.m
def FitO (o : Option Rat) : Prop := ∀ r, o = some r → Fit r
def Short (x : R3) : Prop := x.l.length ≤ 1048576 ∧ x.m.length ≤ 1048576
theorem fitO_none : FitO none := fun _ h => by cases h
theorem fitO_some {r : Rat} (h : Fit r) : FitO (some r) := fun s e => by injection e with e; rw [← e]; exact h
theorem FitO.cut (r : Rat) : FitO (cutQ r) := fun s h => cutQ_fit h
theorem FitO.val (x : R3) : FitO (valx x) := fun r h => (valQ_fit h).1
theorem FitO.short {o : Option Rat} (h : FitO o) : Short (ofO o) := len2 h
theorem FitO.len {o : Option Rat} (h : FitO o) : (ofO o).l.length ≤ 24 ∧ (ofO o).m.length ≤ 24 := ql_len h
theorem FitO.bin {F : Rat → Rat → Option Rat} (hF : ∀ r s t, F r s = some t → Fit t) (x y : Option Rat) : FitO (binQ F x y) := fun t h => by
  cases x with
  | none => cases h
  | some r =>
    cases y with
    | none => cases h
    | some s => exact hF r s t h
theorem valx_ofO {o : Option Rat} (h : FitO o) : valx (ofO o) = o := by
  cases o with
  | none => rfl
  | some r => exact valQ_yes (h r rfl)
theorem okx_ofO {o : Option Rat} (h : FitO o) : okx (ofO o) = o.isSome := by
  cases o with
  | none => rfl
  | some r => exact okR_mk (h r rfl)
theorem valx_no {x : R3} (h : okx x = false) : valx x = none := valQ_no h
theorem valx_yes {x : R3} (h : okx x = true) : ∃ r, valx x = some r ∧ x = ofO (some r) ∧ Fit r := by
  obtain ⟨p, l, m⟩ := x
  obtain ⟨r, rfl, rfl, rfl, hf⟩ := okR_q h
  exact ⟨r, valQ_yes hf, rfl, hf⟩
theorem okx_eq (x : R3) : okx x = (valx x).isSome := by
  cases h : okx x with
  | false => rw [valx_no h]; rfl
  | true => obtain ⟨r, e, _⟩ := valx_yes h; rw [e]; rfl
/-- A fraction in rows of the call's own. -/
def MadeQ (B : Nat) (x : R3) (w : World) (e : Ending) (w' : World) : Prop :=
  ∃ a : Ad, e = .returned (.agg #[.bool x.p, .slice a.A x.l.length a.c, .slice a.D x.m.length a.d]) ∧ x.l.length ≤ a.c ∧ x.m.length ≤ a.d ∧ Owns B w'.heap.size w' (rows x a) ∧ Aparts (rows x a) ∧ Below w.heap.size w w'
/-- A point in rows of the call's own. -/
def MadeP (B : Nat) (x y : R3) (w : World) (e : Ending) (w' : World) : Prop :=
  ∃ a b : Ad, e = .returned (.agg #[.bool x.p, .slice a.A x.l.length a.c, .slice a.D x.m.length a.d, .bool y.p, .slice b.A y.l.length b.c, .slice b.D y.m.length b.d]) ∧ (x.l.length ≤ a.c ∧ x.m.length ≤ a.d ∧ y.l.length ≤ b.c ∧ y.m.length ≤ b.d) ∧ Owns B w'.heap.size w' (rows x a ++ rows y b) ∧ Aparts (rows x a ++ rows y b) ∧ Below w.heap.size w w'
theorem MadeR.toQ {B : Nat} {x : R3} {w w' : World} {e : Ending} (h : MadeR B x.p x.l x.m w e w') : MadeQ B x w e w' := by
  obtain ⟨A, c, D, d, h1, h2, h3, h4, h5, h6, h7⟩ := h
  exact ⟨⟨A, c, D, d⟩, h1, h2, h3, owns2 h4 h5 (Nat.le_refl _), Aparts.two (by simpa [vi_length] using h6), h7⟩
theorem MadeQ.to {B : Nat} {x y : R3} {w w' : World} {e : Ending} (h : MadeQ B x w e w') (he : x = y) : MadeQ B y w e w' := by subst he; exact h
theorem MadeP.to {B : Nat} {x y x' y' : R3} {w w' : World} {e : Ending} (h : MadeP B x y w e w') (h1 : x = x') (h2 : y = y') : MadeP B x' y' w e w' := by subst h1; subst h2; exact h
theorem rows_rd {w : World} {x : R3} {a : Ad} (h : Rds w (rows x a)) : RdS w a.A (vi x.l) ∧ RdS w a.D (vi x.m) := ⟨h.hd, h.tl.hd⟩
theorem rows_mk {w : World} {x : R3} {a : Ad} (h : RdS w a.A (vi x.l)) (h' : RdS w a.D (vi x.m)) : Rds w (rows x a) := rds2 h h'
theorem rds_l {w : World} {rs ss : List (Option Addr × List Value)} (h : Rds w (rs ++ ss)) : Rds w rs := fun r hr => h r (List.mem_append_left _ hr)
theorem rds_r {w : World} {rs ss : List (Option Addr × List Value)} (h : Rds w (rs ++ ss)) : Rds w ss := fun r hr => h r (List.mem_append_right _ hr)
theorem owns_l {lo hi : Nat} {w : World} {rs ss : List (Option Addr × List Value)} (h : Owns lo hi w (rs ++ ss)) : Owns lo hi w rs := fun r hr => h r (List.mem_append_left _ hr)
theorem owns_r {lo hi : Nat} {w : World} {rs ss : List (Option Addr × List Value)} (h : Owns lo hi w (rs ++ ss)) : Owns lo hi w ss := fun r hr => h r (List.mem_append_right _ hr)
/-- Rows with marks in them. -/
def mkR (k : Int) (x : R3) : R3 := ⟨x.p, marks k x.l.length, marks (k + (x.l.length : Int)) x.m.length⟩
/-- The mark behind a fraction, and behind a point. -/
def nxt (k : Int) (x : R3) : Int := k + (x.l.length : Int) + (x.m.length : Int)
theorem nxt_le (k : Int) (x : R3) : k ≤ nxt k x := by unfold nxt; omega
theorem nxt_up {k j : Int} {x : R3} (h : k ≤ j) (hx : Short x) : nxt k x ≤ j + 2097152 := by obtain ⟨h1, h2⟩ := hx; unfold nxt; omega
def szx (x : R3) : Int := (x.l.length : Int) + (x.m.length : Int)

theorem toRat_r (x : R3) (a : Ad) (w : World) (hs : Short x) (h : Rds w (rows x a)) :
    Calls Tryz.prog 44 #[.agg #[.bool x.p, .slice a.A x.l.length a.c, .slice a.D x.m.length a.d]] w (MadeQ w.heap.size x w) :=
  (toRat_any x.p x.l x.m a.A a.D x.l.length a.c x.m.length a.d w rfl hs.1 (rows_rd h).1 rfl hs.2 (rows_rd h).2).mono fun e w' ⟨g, g', h1, h2, h3, ⟨mid, h4, h5⟩, h6⟩ =>
    ⟨⟨some ⟨g, 0, none⟩, x.l.length, some ⟨g', 0, none⟩, x.m.length⟩, h1, Nat.le_refl _, Nat.le_refl _, owns2 h2 h3 (Nat.le_refl _), Aparts.two (by rw [vi_length, vi_length]; exact h4.apart h5 (.inl (Nat.le_refl _))), h6⟩
/-- A slice that is no nil slice. -/
def Pin (a : Ad) : Prop := (∃ g, a.A = some ⟨g, 0, none⟩) ∧ ∃ g, a.D = some ⟨g, 0, none⟩
def MadeQp (B : Nat) (x : R3) (w : World) (e : Ending) (w' : World) : Prop :=
  ∃ a : Ad, Pin a ∧ e = .returned (.agg #[.bool x.p, .slice a.A x.l.length a.c, .slice a.D x.m.length a.d]) ∧ x.l.length ≤ a.c ∧ x.m.length ≤ a.d ∧ Owns B w'.heap.size w' (rows x a) ∧ Aparts (rows x a) ∧ Below w.heap.size w w'
def MadePp (B : Nat) (x y : R3) (w : World) (e : Ending) (w' : World) : Prop :=
  ∃ a b : Ad, (Pin a ∧ Pin b) ∧ e = .returned (.agg #[.bool x.p, .slice a.A x.l.length a.c, .slice a.D x.m.length a.d, .bool y.p, .slice b.A y.l.length b.c, .slice b.D y.m.length b.d]) ∧ (x.l.length ≤ a.c ∧ x.m.length ≤ a.d ∧ y.l.length ≤ b.c ∧ y.m.length ≤ b.d) ∧ Owns B w'.heap.size w' (rows x a ++ rows y b) ∧ Aparts (rows x a ++ rows y b) ∧ Below w.heap.size w w'
theorem toRat_p (x : R3) (a : Ad) (w : World) (hs : Short x) (h : Rds w (rows x a)) :
    Calls Tryz.prog 44 #[.agg #[.bool x.p, .slice a.A x.l.length a.c, .slice a.D x.m.length a.d]] w (MadeQp w.heap.size x w) :=
  (toRat_any x.p x.l x.m a.A a.D x.l.length a.c x.m.length a.d w rfl hs.1 (rows_rd h).1 rfl hs.2 (rows_rd h).2).mono fun e w' ⟨g, g', h1, h2, h3, ⟨mid, h4, h5⟩, h6⟩ =>
    ⟨⟨some ⟨g, 0, none⟩, x.l.length, some ⟨g', 0, none⟩, x.m.length⟩, ⟨⟨g, rfl⟩, ⟨g', rfl⟩⟩, h1, Nat.le_refl _, Nat.le_refl _, owns2 h2 h3 (Nat.le_refl _), Aparts.two (by rw [vi_length, vi_length]; exact h4.apart h5 (.inl (Nat.le_refl _))), h6⟩
theorem eqRat_r (x y : R3) (a b : Ad) (w : World) (hs : Short x) (hs' : Short y) (h : Rds w (rows x a)) (h' : Rds w (rows y b)) :
    Calls Tryz.prog 10 #[.agg #[.bool x.p, .slice a.A x.l.length a.c, .slice a.D x.m.length a.d], .agg #[.bool y.p, .slice b.A y.l.length b.c, .slice b.D y.m.length b.d]] w fun e w' => e = .returned (.bool (decide (x.p = y.p) && decide (x.l = y.l) && decide (x.m = y.m))) ∧ Below w.heap.size w w' :=
  have ⟨h1, h2⟩ := hs
  have ⟨h3, h4⟩ := hs'
  eqRat_any x.p y.p x.l x.m y.l y.m a.A a.D b.A b.D x.l.length x.m.length y.l.length y.m.length a.c a.d b.c b.d w rfl rfl rfl rfl (by omega) (by omega) (by omega) (by omega) (rows_rd h).1 (rows_rd h).2 (rows_rd h').1 (rows_rd h').2
theorem eqRat_t (x : R3) (a b : Ad) (w : World) (hs : Short x) (h : Rds w (rows x a)) (h' : Rds w (rows x b)) :
    Calls Tryz.prog 10 #[.agg #[.bool x.p, .slice a.A x.l.length a.c, .slice a.D x.m.length a.d], .agg #[.bool x.p, .slice b.A x.l.length b.c, .slice b.D x.m.length b.d]] w fun e w' => e = .returned (.bool true) ∧ Below w.heap.size w w' :=
  (eqRat_r x x a b w hs hs h h').mono fun e w' ⟨he, hb⟩ => ⟨by rw [he]; simp, hb⟩
/-- The marks behind a call of markRat. -/
theorem markRat_r (lo hi : Nat) (x : R3) (a : Ad) (k : Int) (w : World) (hs : Short x) (hk : 0 < k) (hk2 : k ≤ 4398046511104) (h : Owns lo hi w (rows x a)) (hap : Aparts (rows x a)) :
    Calls Tryz.prog 13 #[.agg #[.bool x.p, .slice a.A x.l.length a.c, .slice a.D x.m.length a.d], .int .i64 k] w fun e w' => e = .returned (.int .i64 (nxt k x)) ∧ Owns lo hi w' (rows (mkR k x) a) ∧ Grown2 w w' (rowOf x.l.length a.A) (rowOf x.m.length a.D) := by
  obtain ⟨h1, h2⟩ := hs
  have hap2 := hap.get2
  rw [vi_length, vi_length] at hap2
  have i1 := h.hr
  have i2 := h.tl.hr
  rw [vi_length] at i1 i2
  refine (markRat_any lo x.p (vi x.l) (vi x.m) a.A a.D x.l.length a.c x.m.length a.d k w (vi_length _) (vi_length _) hk (by omega) h.hd h.tl.hd hap2).mono fun e w' ⟨he, o1, o2, hg⟩ => ⟨he, ?_, hg⟩
  refine Owns.cons o1 ?_ (Owns.cons o2 ?_ (Owns.nil _ _ _))
  · rw [vi_length]; show InR (marks k x.l.length).length a.A lo hi; rw [marks_length]; exact i1
  · rw [vi_length]; show InR (marks (k + (x.l.length : Int)) x.m.length).length a.D lo hi; rw [marks_length]; exact i2
theorem heldRat_r (x : R3) (a : Ad) (k : Int) (w : World) (hs : Short x) (hk : 0 < k) (hk2 : k ≤ 4398046511104) (h : Rds w (rows (mkR k x) a)) :
    Calls Tryz.prog 14 #[.agg #[.bool x.p, .slice a.A x.l.length a.c, .slice a.D x.m.length a.d], .int .i64 k] w fun e w' => e = .returned (.int .i64 (nxt k x)) ∧ Below w.heap.size w w' := by
  obtain ⟨h1, h2⟩ := hs
  exact heldRat_any x.p a.A a.D x.l.length a.c x.m.length a.d k w hk (by omega) h.hd h.tl.hd
theorem szRat_y (x : R3) (a : Ad) (left : Int) (w : World) (h0 : 0 ≤ left) (h1 : left ≤ 1048576) (h : szx x ≤ left) :
    Calls Tryz.prog 40 #[.agg #[.bool x.p, .slice a.A x.l.length a.c, .slice a.D x.m.length a.d], .int .i64 left] w fun e w' => e = .returned (.int .i64 (left - szx x)) ∧ Below w.heap.size w w' := by
  unfold szx at h
  exact (szRat_yes x.p a.A a.D x.l.length a.c x.m.length a.d left w h0 h1 h).mono fun e w' ⟨he, hb⟩ => ⟨by rw [he]; unfold szx; rw [Int.sub_sub], hb⟩
theorem szRat_n (x : R3) (a : Ad) (left : Int) (w : World) (hxl : x.l.length ≤ 9223372036854775807) (hxm : x.m.length ≤ 9223372036854775807) (h0 : 0 ≤ left) (h1 : left ≤ 1048576) (h : ¬ szx x ≤ left) :
    Calls Tryz.prog 40 #[.agg #[.bool x.p, .slice a.A x.l.length a.c, .slice a.D x.m.length a.d], .int .i64 left] w fun e w' => e = .returned (.int .i64 (-1)) ∧ Below w.heap.size w w' := by
  unfold szx at h
  exact szRat_no x.p a.A a.D x.l.length a.c x.m.length a.d left w h0 h1 hxl hxm h
theorem szx_pos (x : R3) : 0 ≤ szx x := by unfold szx; omega
theorem szx_short {x : R3} {left : Int} (h : szx x ≤ left) (h1 : left ≤ 1048576) : Short x := by unfold szx at h; exact ⟨by omega, by omega⟩
end Go.Proofs.YtennekieiioilaaGreat
