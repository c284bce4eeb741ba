/-
  Two arrays of three arrays of three bools compared.
-/
import Derived.Test.YtppdholccpgcpaaGreatArQ
namespace Go.Proofs.YtppdholccpgcpaaGreat
open Go.ChangeShapes Go.WideShapes Go.ChangeAt Go.RowKit
set_option linter.unusedVariables false
set_option linter.unusedSimpArgs false
set_option maxRecDepth 4000
theorem b1_size : (Tryz.prog.info? 4).map (·.size) = some 1 := by kernel_rfl
theorem b3_size : (Tryz.prog.info? 168).map (·.size) = some 3 := by kernel_rfl
theorem b3_agg (w : World) : (isAgg 168).run Tryz.prog w = .ok true w := by simp [isAgg, run_underlying Tryz.underlying168]
theorem b1_agg (w : World) : (isAgg 4).run Tryz.prog w = .ok false w := by simp [isAgg, run_underlying Tryz.underlying4]
theorem b9_size : (Tryz.prog.info? 169).map (·.size) = some 9 := by kernel_rfl
theorem b9_agg (w : World) : (isAgg 169).run Tryz.prog w = .ok true w := by simp [isAgg, run_underlying Tryz.underlying169]
theorem run_eq3 (d : Nat) (a b c : Bool) (w : World) : (Op.equalIn (d + 2) 168 (.agg #[.bool a, .bool b, .bool c]) (.agg #[.bool false, .bool false, .bool false])).run Tryz.prog w = .ok (!(a || (b || c))) w := by
  have e : ∀ (x : Bool) (w : World), (Op.equalIn (d + 1) 4 (.bool x) (.bool false)).run Tryz.prog w = .ok (!x) w := fun x w => by
    rw [run_equalIn_bool' w d 4 x false Tryz.underlying4]; cases x <;> rfl
  rw [Op.equalIn]
  simp only [Sem.run_bind, run_underlying Tryz.underlying168, Result.andThen_ok, run_size b1_size]
  simp only [Std.Legacy.Range.forIn_eq_forIn_range', Std.Legacy.Range.size, Nat.sub_zero, Nat.add_sub_cancel, Nat.div_one, List.range'_succ, List.range'_zero, List.forIn_cons, List.forIn_nil]
  cases a <;> cases b <;> cases c <;> simp [Go.part, b1_agg, e]
theorem run_eq9 (b0 b1 b2 b3 b4 b5 b6 b7 b8 : Bool) (w : World) : (Op.equalIn 10000 169 (.agg #[.bool b0, .bool b1, .bool b2, .bool b3, .bool b4, .bool b5, .bool b6, .bool b7, .bool b8]) (.agg #[.bool false, .bool false, .bool false, .bool false, .bool false, .bool false, .bool false, .bool false, .bool false])).run Tryz.prog w = .ok (!((b0 || (b1 || b2)) || ((b3 || (b4 || b5)) || (b6 || (b7 || b8))))) w := by
  have e : ∀ (x y z : Bool) (w : World), (Op.equalIn 9999 168 (.agg #[.bool x, .bool y, .bool z]) (.agg #[.bool false, .bool false, .bool false])).run Tryz.prog w = .ok (!(x || (y || z))) w := fun x y z w => run_eq3 9997 x y z w
  rw [show (10000 : Nat) = 9999 + 1 from rfl, Op.equalIn]
  simp only [Sem.run_bind, run_underlying Tryz.underlying169, Result.andThen_ok, run_size b3_size]
  simp only [Std.Legacy.Range.forIn_eq_forIn_range', Std.Legacy.Range.size, Nat.sub_zero, Nat.add_sub_cancel, Nat.div_one, List.range'_succ, List.range'_zero, List.forIn_cons, List.forIn_nil]
  have e0 := e b0 b1 b2
  have e1 := e b3 b4 b5
  have e2 := e b6 b7 b8
  obtain ⟨x, hx⟩ : ∃ x, x = (b0 || (b1 || b2)) := ⟨_, rfl⟩
  obtain ⟨y, hy⟩ : ∃ x, x = (b3 || (b4 || b5)) := ⟨_, rfl⟩
  obtain ⟨z, hz⟩ : ∃ x, x = (b6 || (b7 || b8)) := ⟨_, rfl⟩
  rw [← hx] at e0 ⊢
  rw [← hy] at e1 ⊢
  rw [← hz] at e2 ⊢
  clear hx hy hz e
  cases x <;> cases y <;> cases z <;> simp [Go.part, b3_agg, run_size b3_size, e0, e1, e2]
end Go.Proofs.YtppdholccpgcpaaGreat
