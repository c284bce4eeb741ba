/-
  Two arrays of three arrays of three bools compared.
-/
import Derived.Test.YtppdholccpgcpaaGreatArQ
import Derived.Test.YtppdholccpgcpaaGreatMatF
import Derived.Test.YtppdholccpgcpaaGreatPkI
import Derived.Test.YtppdholccpgcpaaGreatFull
import Derived.Test.YtppdholccpgcpaaGreatWp
import Derived.Test.YtppdholccpgcpaaGreatPkF
import Derived.Test.YtppdholccpgcpaaGreatGrS
namespace Go.Proofs.YtppdholccpgcpaaGreat
open Go.ChangeShapes Go.WideShapes Go.ChangeAt Go.RowKit
set_option linter.unusedVariables false
set_option linter.unusedSimpArgs false
set_option maxRecDepth 4000
theorem b1_size : (Tryz.prog.info? 4).map (·.size) = some 1 := by kernel_rfl
theorem b3_size : (Tryz.prog.info? 168).map (·.size) = some 3 := by kernel_rfl
theorem b3_agg (w : World) : (isAgg 168).run Tryz.prog w = .ok true w := by simp [isAgg, run_underlying Tryz.underlying168]
theorem b1_agg (w : World) : (isAgg 4).run Tryz.prog w = .ok false w := by simp [isAgg, run_underlying Tryz.underlying4]
theorem b9_size : (Tryz.prog.info? 169).map (·.size) = some 9 := by kernel_rfl
theorem b9_agg (w : World) : (isAgg 169).run Tryz.prog w = .ok true w := by simp [isAgg, run_underlying Tryz.underlying169]
theorem run_eq3 (d : Nat) (a b c : Bool) (w : World) : (Op.equalIn (d + 2) 168 (.agg #[.bool a, .bool b, .bool c]) (.agg #[.bool false, .bool false, .bool false])).run Tryz.prog w = .ok (!(a || (b || c))) w := by
  have e : ∀ (x : Bool) (w : World), (Op.equalIn (d + 1) 4 (.bool x) (.bool false)).run Tryz.prog w = .ok (!x) w := fun x w => by
    rw [run_equalIn_bool' w d 4 x false Tryz.underlying4]; cases x <;> rfl
  rw [Op.equalIn]
  simp only [Sem.run_bind, run_underlying Tryz.underlying168, Result.andThen_ok, run_size b1_size]
  simp only [Std.Legacy.Range.forIn_eq_forIn_range', Std.Legacy.Range.size, Nat.sub_zero, Nat.add_sub_cancel, Nat.div_one, List.range'_succ, List.range'_zero, List.forIn_cons, List.forIn_nil]
  cases a <;> cases b <;> cases c <;> simp [Go.part, b1_agg, e]
theorem run_eq9 (b0 b1 b2 b3 b4 b5 b6 b7 b8 : Bool) (w : World) : (Op.equalIn 10000 169 (.agg #[.bool b0, .bool b1, .bool b2, .bool b3, .bool b4, .bool b5, .bool b6, .bool b7, .bool b8]) (.agg #[.bool false, .bool false, .bool false, .bool false, .bool false, .bool false, .bool false, .bool false, .bool false])).run Tryz.prog w = .ok (!((b0 || (b1 || b2)) || ((b3 || (b4 || b5)) || (b6 || (b7 || b8))))) w := by
  have e : ∀ (x y z : Bool) (w : World), (Op.equalIn 9999 168 (.agg #[.bool x, .bool y, .bool z]) (.agg #[.bool false, .bool false, .bool false])).run Tryz.prog w = .ok (!(x || (y || z))) w := fun x y z w => run_eq3 9997 x y z w
  rw [show (10000 : Nat) = 9999 + 1 from rfl, Op.equalIn]
  simp only [Sem.run_bind, run_underlying Tryz.underlying169, Result.andThen_ok, run_size b3_size]
  simp only [Std.Legacy.Range.forIn_eq_forIn_range', Std.Legacy.Range.size, Nat.sub_zero, Nat.add_sub_cancel, Nat.div_one, List.range'_succ, List.range'_zero, List.forIn_cons, List.forIn_nil]
  have e0 := e b0 b1 b2
  have e1 := e b3 b4 b5
  have e2 := e b6 b7 b8
  obtain ⟨x, hx⟩ : ∃ x, x = (b0 || (b1 || b2)) := ⟨_, rfl⟩
  obtain ⟨y, hy⟩ : ∃ x, x = (b3 || (b4 || b5)) := ⟨_, rfl⟩
  obtain ⟨z, hz⟩ : ∃ x, x = (b6 || (b7 || b8)) := ⟨_, rfl⟩
  rw [← hx] at e0 ⊢
  rw [← hy] at e1 ⊢
  rw [← hz] at e2 ⊢
  clear hx hy hz e
  cases x <;> cases y <;> cases z <;> simp [Go.part, b3_agg, run_size b3_size, e0, e1, e2]
end Go.Proofs.YtppdholccpgcpaaGreat
namespace Go.Proofs.YtppdholccpgcpaaGreat
open Go.ChangeShapes Go.WideShapes Go.ChangeAt Go.RowKit
set_option linter.unusedVariables false
set_option linter.unusedSimpArgs false
set_option maxRecDepth 4000
def areaQ (L : List PV) : Option Rat := binQ mulQ (aT L) (ofQ 1 2)
def gAt (G : List PV) (i : Nat) : PV := (G[i]?).getD ⟨noR, noR, noA, noA⟩
def innE (p q : PV) : Option Rat := binQ addQ (binQ mulQ (valx p.x) (valx q.x)) (binQ mulQ (valx p.y) (valx q.y))
def stiffF (L : List PV) (i j : Nat) : Option Rat := binQ mulQ (areaQ L) (innE (gAt (gradL L) i) (gAt (gradL L) j))
def stiffL (L : List PV) : List SV := fullM (stiffF L) (gradL L).length (gradL L).length
theorem areaQ_fit (L : List PV) : FitO (areaQ L) := binmul_fit _ _
theorem stiffF_fit (L : List PV) (i j : Nat) : FitO (stiffF L i j) := binmul_fit _ _
theorem innE_fit (p q : PV) : FitO (innE p q) := binadd_fit _ _
theorem areaQ_dat {L M : List PV} (h : dat M = dat L) : areaQ M = areaQ L := by unfold areaQ; rw [aT_dat h]
theorem stiffF_dat {L M : List PV} (h : dat M = dat L) : stiffF M = stiffF L := by funext i j; unfold stiffF; rw [areaQ_dat h, gradL_dats h]
theorem stiffL_dat {L M : List PV} (h : dat M = dat L) : stiffL M = stiffL L := by unfold stiffL; rw [stiffF_dat h, gradL_dats h]
theorem gradL_len3 (L : List PV) : (gradL L).length = 0 ∨ (gradL L).length = 3 := by
  unfold gradL gradV gl3
  split
  · exact .inr rfl
  · exact .inl rfl
theorem stiffL_size (L : List PV) : szm2 (stiffL L) ≤ 1048576 ∧ ((stiffL L).length ≤ 1048576 ∧ ∀ p, p ∈ (stiffL L) → ShortS p) := by
  have h := gradL_len3 L
  exact fullM_size (stiffF_fit L) _ _ (by omega) (by omega)
theorem gAt_get {G : List PV} {i : Nat} {p : PV} (h : G[i]? = some p) : gAt G i = p := by unfold gAt; rw [h]; rfl
end Go.Proofs.YtppdholccpgcpaaGreat
namespace Go.Proofs.YtppdholccpgcpaaGreat
open Go.ChangeShapes Go.WideShapes Go.ChangeAt Go.RowKit
set_option linter.unusedVariables false
set_option linter.unusedSimpArgs false
set_option maxRecDepth 4000
theorem len_none {x : R3} (hx : x = ofO (valx x)) (h : ¬ 0 < x.m.length) : valx x = none := by
  cases hv : valx x with
  | none => rfl
  | some r =>
    have h1 := len_pos (some r)
    rw [hv] at hx
    rw [← hx, decide_eq_false h] at h1
    cases h1
attribute [local go_sem ↓] Go.wp_at_zero Go.wp_at_succ
end Go.Proofs.YtppdholccpgcpaaGreat
