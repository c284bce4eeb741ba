/-
  Fractions and points with their data and their addresses bundled; what the harness' functions do over fractions, in these words.
-/
import Derived.Test.YtppdholccpgcpaaGreatWg
import Derived.Test.YtppdholccpgcpaaGreatTurn
import Derived.Test.YtppdholccpgcpaaGreatPkD
namespace Go.Proofs.YtppdholccpgcpaaGreat
open Go.ChangeShapes Go.WideShapes Go.ChangeAt Go.RowKit
set_option linter.unusedVariables false
set_option linter.unusedSimpArgs false
set_option maxRecDepth 4000
structure R3 where
  p : Bool
  l : List Int
  m : List Int
structure Ad where
  A : Option Addr
  c : Nat
  D : Option Addr
  d : Nat
def rows (x : R3) (a : Ad) : List (Option Addr × List Value) := [(a.A, vi x.l), (a.D, vi x.m)]
def ofO (o : Option Rat) : R3 := ⟨qn o, ql o, qd o⟩
def noR : R3 := ⟨false, [], []⟩
def okx (x : R3) : Bool := okR x.p x.l x.m
def valx (x : R3) : Option Rat := valQ x.p x.l x.m
def FitO (o : Option Rat) : Prop := ∀ r, o = some r → Fit r
def Short (x : R3) : Prop := x.l.length ≤ 1048576 ∧ x.m.length ≤ 1048576
theorem fitO_none : FitO none := fun _ h => by cases h
theorem fitO_some {r : Rat} (h : Fit r) : FitO (some r) := fun s e => by injection e with e; rw [← e]; exact h
theorem FitO.val (x : R3) : FitO (valx x) := fun r h => (valQ_fit h).1
theorem FitO.short {o : Option Rat} (h : FitO o) : Short (ofO o) := len2 h
theorem FitO.len {o : Option Rat} (h : FitO o) : (ofO o).l.length ≤ 24 ∧ (ofO o).m.length ≤ 24 := ql_len h
theorem FitO.bin {F : Rat → Rat → Option Rat} (hF : ∀ r s t, F r s = some t → Fit t) (x y : Option Rat) : FitO (binQ F x y) := fun t h => by
  cases x with
  | none => cases h
  | some r =>
    cases y with
    | none => cases h
    | some s => exact hF r s t h
theorem valx_ofO {o : Option Rat} (h : FitO o) : valx (ofO o) = o := by
  cases o with
  | none => rfl
  | some r => exact valQ_yes (h r rfl)
theorem okx_ofO {o : Option Rat} (h : FitO o) : okx (ofO o) = o.isSome := by
  cases o with
  | none => rfl
  | some r => exact okR_mk (h r rfl)
theorem valx_no {x : R3} (h : okx x = false) : valx x = none := valQ_no h
theorem valx_yes {x : R3} (h : okx x = true) : ∃ r, valx x = some r ∧ x = ofO (some r) ∧ Fit r := by
  obtain ⟨p, l, m⟩ := x
  obtain ⟨r, rfl, rfl, rfl, hf⟩ := okR_q h
  exact ⟨r, valQ_yes hf, rfl, hf⟩
theorem okx_eq (x : R3) : okx x = (valx x).isSome := by
  cases h : okx x with
  | false => rw [valx_no h]; rfl
  | true => obtain ⟨r, e, _⟩ := valx_yes h; rw [e]; rfl
def MadeQ (B : Nat) (x : R3) (w : World) (e : Ending) (w' : World) : Prop :=
  ∃ a : Ad, e = .returned (.agg (g3 x.p a.A x.l.length a.c a.D x.m.length a.d)) ∧ x.l.length ≤ a.c ∧ x.m.length ≤ a.d ∧ Owns B w'.heap.size w' (rows x a) ∧ Aparts (rows x a) ∧ Below w.heap.size w w'
def MadeP (B : Nat) (x y : R3) (w : World) (e : Ending) (w' : World) : Prop :=
  ∃ a b : Ad, e = .returned (.agg #[.bool x.p, .slice a.A x.l.length a.c, .slice a.D x.m.length a.d, .bool y.p, .slice b.A y.l.length b.c, .slice b.D y.m.length b.d]) ∧ (x.l.length ≤ a.c ∧ x.m.length ≤ a.d ∧ y.l.length ≤ b.c ∧ y.m.length ≤ b.d) ∧ Owns B w'.heap.size w' (rows x a ++ rows y b) ∧ Aparts (rows x a ++ rows y b) ∧ Below w.heap.size w w'
theorem MadeR.toQ {B : Nat} {x : R3} {w w' : World} {e : Ending} (h : MadeR B x.p x.l x.m w e w') : MadeQ B x w e w' := by
  obtain ⟨A, c, D, d, h1, h2, h3, h4, h5, h6, h7⟩ := h
  exact ⟨⟨A, c, D, d⟩, h1, h2, h3, owns2 h4 h5 (Nat.le_refl _), Aparts.two (by simpa [vi_length] using h6), h7⟩
theorem rows_rd {w : World} {x : R3} {a : Ad} (h : Rds w (rows x a)) : RdS w a.A (vi x.l) ∧ RdS w a.D (vi x.m) := ⟨h.hd, h.tl.hd⟩
theorem rds_l {w : World} {rs ss : List (Option Addr × List Value)} (h : Rds w (rs ++ ss)) : Rds w rs := fun r hr => h r (List.mem_append_left _ hr)
theorem rds_r {w : World} {rs ss : List (Option Addr × List Value)} (h : Rds w (rs ++ ss)) : Rds w ss := fun r hr => h r (List.mem_append_right _ hr)
theorem owns_l {lo hi : Nat} {w : World} {rs ss : List (Option Addr × List Value)} (h : Owns lo hi w (rs ++ ss)) : Owns lo hi w rs := fun r hr => h r (List.mem_append_left _ hr)
theorem owns_r {lo hi : Nat} {w : World} {rs ss : List (Option Addr × List Value)} (h : Owns lo hi w (rs ++ ss)) : Owns lo hi w ss := fun r hr => h r (List.mem_append_right _ hr)
end Go.Proofs.YtppdholccpgcpaaGreat
