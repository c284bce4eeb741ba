/-
  Fractions and points with their data and their addresses bundled; what the harness' functions do over fractions, in these words.
-/
import Derived.Test.YtppdholccpgcpaaGreatWg
import Derived.Test.YtppdholccpgcpaaGreatTurn
import Derived.Test.YtppdholccpgcpaaGreatPkD
namespace Go.Proofs.YtppdholccpgcpaaGreat
open Go.ChangeShapes Go.WideShapes Go.ChangeAt Go.RowKit
set_option linter.unusedVariables false
set_option linter.unusedSimpArgs false
set_option maxRecDepth 4000
structure R3 where
  p : Bool
  l : List Int
  m : List Int
structure Ad where
  A : Option Addr
  c : Nat
  D : Option Addr
  d : Nat
def rows (x : R3) (a : Ad) : List (Option Addr × List Value) := [(a.A, vi x.l), (a.D, vi x.m)]
def ofO (o : Option Rat) : R3 := ⟨qn o, ql o, qd o⟩
def noR : R3 := ⟨false, [], []⟩
def okx (x : R3) : Bool := okR x.p x.l x.m
def valx (x : R3) : Option Rat := valQ x.p x.l x.m
def FitO (o : Option Rat) : Prop := ∀ r, o = some r → Fit r
def Short (x : R3) : Prop := x.l.length ≤ 1048576 ∧ x.m.length ≤ 1048576
theorem fitO_none : FitO none := fun _ h => by cases h
theorem fitO_some {r : Rat} (h : Fit r) : FitO (some r) := fun s e => by injection e with e; rw [← e]; exact h
theorem FitO.val (x : R3) : FitO (valx x) := fun r h => (valQ_fit h).1
theorem FitO.short {o : Option Rat} (h : FitO o) : Short (ofO o) := len2 h
theorem FitO.len {o : Option Rat} (h : FitO o) : (ofO o).l.length ≤ 24 ∧ (ofO o).m.length ≤ 24 := ql_len h
theorem FitO.bin {F : Rat → Rat → Option Rat} (hF : ∀ r s t, F r s = some t → Fit t) (x y : Option Rat) : FitO (binQ F x y) := fun t h => by
  cases x with
  | none => cases h
  | some r =>
    cases y with
    | none => cases h
    | some s => exact hF r s t h
theorem valx_ofO {o : Option Rat} (h : FitO o) : valx (ofO o) = o := by
  cases o with
  | none => rfl
  | some r => exact valQ_yes (h r rfl)
theorem okx_ofO {o : Option Rat} (h : FitO o) : okx (ofO o) = o.isSome := by
  cases o with
  | none => rfl
  | some r => exact okR_mk (h r rfl)
theorem valx_no {x : R3} (h : okx x = false) : valx x = none := valQ_no h
theorem valx_yes {x : R3} (h : okx x = true) : ∃ r, valx x = some r ∧ x = ofO (some r) ∧ Fit r := by
  obtain ⟨p, l, m⟩ := x
  obtain ⟨r, rfl, rfl, rfl, hf⟩ := okR_q h
  exact ⟨r, valQ_yes hf, rfl, hf⟩
theorem okx_eq (x : R3) : okx x = (valx x).isSome := by
  cases h : okx x with
  | false => rw [valx_no h]; rfl
  | true => obtain ⟨r, e, _⟩ := valx_yes h; rw [e]; rfl
def MadeQ (B : Nat) (x : R3) (w : World) (e : Ending) (w' : World) : Prop :=
  ∃ a : Ad, e = .returned (.agg (g3 x.p a.A x.l.length a.c a.D x.m.length a.d)) ∧ x.l.length ≤ a.c ∧ x.m.length ≤ a.d ∧ Owns B w'.heap.size w' (rows x a) ∧ Aparts (rows x a) ∧ Below w.heap.size w w'
def MadeP (B : Nat) (x y : R3) (w : World) (e : Ending) (w' : World) : Prop :=
  ∃ a b : Ad, e = .returned (.agg #[.bool x.p, .slice a.A x.l.length a.c, .slice a.D x.m.length a.d, .bool y.p, .slice b.A y.l.length b.c, .slice b.D y.m.length b.d]) ∧ (x.l.length ≤ a.c ∧ x.m.length ≤ a.d ∧ y.l.length ≤ b.c ∧ y.m.length ≤ b.d) ∧ Owns B w'.heap.size w' (rows x a ++ rows y b) ∧ Aparts (rows x a ++ rows y b) ∧ Below w.heap.size w w'
theorem MadeR.toQ {B : Nat} {x : R3} {w w' : World} {e : Ending} (h : MadeR B x.p x.l x.m w e w') : MadeQ B x w e w' := by
  obtain ⟨A, c, D, d, h1, h2, h3, h4, h5, h6, h7⟩ := h
  exact ⟨⟨A, c, D, d⟩, h1, h2, h3, owns2 h4 h5 (Nat.le_refl _), Aparts.two (by simpa [vi_length] using h6), h7⟩
theorem rows_rd {w : World} {x : R3} {a : Ad} (h : Rds w (rows x a)) : RdS w a.A (vi x.l) ∧ RdS w a.D (vi x.m) := ⟨h.hd, h.tl.hd⟩
theorem rds_l {w : World} {rs ss : List (Option Addr × List Value)} (h : Rds w (rs ++ ss)) : Rds w rs := fun r hr => h r (List.mem_append_left _ hr)
theorem rds_r {w : World} {rs ss : List (Option Addr × List Value)} (h : Rds w (rs ++ ss)) : Rds w ss := fun r hr => h r (List.mem_append_right _ hr)
theorem owns_l {lo hi : Nat} {w : World} {rs ss : List (Option Addr × List Value)} (h : Owns lo hi w (rs ++ ss)) : Owns lo hi w rs := fun r hr => h r (List.mem_append_left _ hr)
theorem owns_r {lo hi : Nat} {w : World} {rs ss : List (Option Addr × List Value)} (h : Owns lo hi w (rs ++ ss)) : Owns lo hi w ss := fun r hr => h r (List.mem_append_right _ hr)
end Go.Proofs.YtppdholccpgcpaaGreat
namespace Go.Proofs.YtppdholccpgcpaaGreat
open Go.ChangeShapes Go.WideShapes Go.ChangeAt Go.RowKit
set_option linter.unusedVariables false
set_option linter.unusedSimpArgs false
def Lg (e : Nat) (r : Rat) : Prop := r.num.natAbs < 10 ^ e ∧ r.den < 10 ^ e
theorem Lg.more {e f : Nat} {r : Rat} (h : Lg e r) (hf : e ≤ f) : Lg f r :=
  ⟨Nat.lt_of_lt_of_le h.1 (Nat.pow_le_pow_right (by decide) hf), Nat.lt_of_lt_of_le h.2 (Nat.pow_le_pow_right (by decide) hf)⟩
theorem lg_mk {z : Int} {d e : Nat} (hd : 0 < d) (hz : z.natAbs < 10 ^ e) (h : d < 10 ^ e) : Lg e (mkRat z d) := by
  have hd' : d ≠ 0 := by omega
  unfold Lg
  rw [Rat.num_mkRat, Rat.den_mkRat, if_neg hd', if_neg hd']
  refine ⟨?_, Nat.lt_of_le_of_lt (Nat.div_le_self _ _) h⟩
  rw [Int.natAbs_ediv_of_dvd (by rw [← Int.dvd_natAbs, Int.ofNat_dvd]; exact Nat.gcd_dvd_right _ _), Int.natAbs_natCast]
  exact Nat.lt_of_le_of_lt (Nat.div_le_self _ _) hz
theorem lg_lt_mul {a b e f : Nat} (h : a < 10 ^ e) (h' : b < 10 ^ f) : a * b < 10 ^ (e + f) := by
  rw [Nat.pow_add]
  rcases Nat.eq_zero_or_pos b with h0 | h0
  · rw [h0, Nat.mul_zero]; exact Nat.mul_pos (Nat.pow_pos (by decide)) (Nat.pow_pos (by decide))
  · exact Nat.lt_of_lt_of_le (Nat.mul_lt_mul_of_pos_right h h0) (Nat.mul_le_mul_left _ (Nat.le_of_lt h'))
theorem Lg.mul {e f : Nat} {r s : Rat} (h : Lg e r) (h' : Lg f s) : Lg (e + f) (r * s) := by
  rw [Rat.mul_def']
  exact lg_mk (Nat.mul_pos r.den_pos s.den_pos) (by rw [Int.natAbs_mul]; exact lg_lt_mul h.1 h'.1) (lg_lt_mul h.2 h'.2)
theorem Lg.add {e f : Nat} {r s : Rat} (h : Lg e r) (h' : Lg f s) : Lg (e + f + 1) (r + s) := by
  rw [Rat.add_def']
  have a1 := lg_lt_mul h.1 h'.2
  have a2 := lg_lt_mul h'.1 h.2
  have a3 := lg_lt_mul h.2 h'.2
  have e1 : 10 ^ (e + f + 1) = 10 ^ (e + f) * 10 := Nat.pow_succ ..
  rw [show f + e = e + f by omega] at a2
  refine lg_mk (Nat.mul_pos r.den_pos s.den_pos) ?_ (by omega)
  have b1 : (r.num * s.den).natAbs = r.num.natAbs * s.den := by rw [Int.natAbs_mul, Int.natAbs_natCast]
  have b2 : (s.num * r.den).natAbs = s.num.natAbs * r.den := by rw [Int.natAbs_mul, Int.natAbs_natCast]
  omega
theorem Lg.neg {e : Nat} {r : Rat} (h : Lg e r) : Lg e (-r) := ⟨by rw [Rat.neg_num, Int.natAbs_neg]; exact h.1, h.2⟩
theorem Lg.sub {e f : Nat} {r s : Rat} (h : Lg e r) (h' : Lg f s) : Lg (e + f + 1) (r - s) := by
  rw [Rat.sub_eq_add_neg]; exact h.add h'.neg
theorem Lg.inv {e : Nat} {r : Rat} (h : Lg e r) : Lg e r⁻¹ := by
  rw [Rat.inv_def]
  by_cases h0 : r.num = 0
  · rw [h0]
    have e1 : Rat.divInt (r.den : Int) 0 = 0 := by simp
    rw [e1]
    exact ⟨Nat.pow_pos (by decide), Nat.lt_of_le_of_lt r.den_pos h.2⟩
  · have : Rat.divInt (r.den : Int) r.num = mkRat (r.num.sign * r.den) r.num.natAbs := by
      rw [← Rat.divInt_ofNat]
      rw [Rat.divInt_eq_divInt_iff h0 (by omega)]
      have := Int.sign_mul_natAbs r.num
      have h3 : (r.num.natAbs : Int) = r.num.sign * r.num := by
        rcases Int.lt_or_gt_of_ne h0 with h | h
        · rw [Int.sign_eq_neg_one_of_neg h]; omega
        · rw [Int.sign_eq_one_of_pos h]; omega
      rw [h3]; ac_rfl
    rw [this]
    refine lg_mk (by omega) ?_ h.1
    rw [Int.natAbs_mul, Int.natAbs_natCast, Int.natAbs_sign_of_ne_zero h0, Nat.one_mul]
    exact h.2
theorem pw24_ten : pw 24 = ((10 ^ 216 : Nat) : Int) := by unfold pw; decide +kernel
theorem Lg.fit {e : Nat} {r : Rat} (h : Lg e r) (he : e ≤ 216) : Fit r := by
  obtain ⟨h1, h2⟩ := h.more he
  unfold Fit
  rw [ln_le_iff, ln_le_iff, pw24_ten]
  exact ⟨Int.ofNat_lt.2 h1, Int.ofNat_lt.2 h2⟩
theorem Lg.cut {e : Nat} {r : Rat} (h : Lg e r) (he : e ≤ 216) : cutQ r = some r := cutQ_in (h.fit he)
end Go.Proofs.YtppdholccpgcpaaGreat
namespace Go.Proofs.YtppdholccpgcpaaGreat
open Go.ChangeShapes Go.WideShapes Go.ChangeAt Go.RowKit
set_option linter.unusedVariables false
set_option linter.unusedSimpArgs false
set_option maxRecDepth 4000
def sameR (x u : R3) : Bool := decide (x.p = u.p) && decide (x.l = u.l) && decide (x.m = u.m)
theorem Aparts.l {rs ss : List (Option Addr × List Value)} (h : Aparts (rs ++ ss)) : Aparts rs := (List.pairwise_append.1 h).1
end Go.Proofs.YtppdholccpgcpaaGreat
