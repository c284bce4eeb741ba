/-
  Local matrices: nine fractions in one block.
-/
import Derived.Test.YtppdholccpgcpaaGreatLawP
import Derived.Test.YtppdholccpgcpaaGreatRl
import Derived.Test.YtppdholccpgcpaaGreatGrB
import Derived.Test.YtppdholccpgcpaaGreatPkI
import Derived.Test.YtppdholccpgcpaaGreatTk
import Derived.Test.YtppdholccpgcpaaGreatPtI
import Derived.Test.YtppdholccpgcpaaGreatSl
import Derived.Test.YtppdholccpgcpaaGreatStore
import Derived.Test.YtppdholccpgcpaaGreatTri
import Derived.Maps.AppendAt
namespace Go.Proofs.YtppdholccpgcpaaGreat
open Go.ChangeShapes Go.WideShapes Go.ChangeAt Go.RowKit
set_option linter.unusedVariables false
set_option linter.unusedSimpArgs false
set_option maxRecDepth 4000
theorem ratq_size : (Tryz.prog.info? 29).map (·.size) = some 3 := by kernel_rfl
theorem r3_size : (Tryz.prog.info? 79).map (·.size) = some 9 := by kernel_rfl
theorem r3_agg (w : World) : (isAgg 79).run Tryz.prog w = .ok true w := by simp [isAgg, run_underlying Tryz.underlying79]
theorem ratq_agg (w : World) : (isAgg 29).run Tryz.prog w = .ok true w := by simp [isAgg, run_underlying Tryz.underlying29]
theorem row_exQ {w : World} {g n k off : Nat} {T : TypeId} {M : List RV} (hM : M.length = k) (ho : off = k * 3) (P : w.heap[g]? = some (.cells (flatQ (M ++ List.replicate (n + 1) RV0)).toArray T (0, 0))) (q : RV) :
    ∃ cs, ((flatQ (M ++ List.replicate (n + 1) RV0)).toArray.toList.take off ++ (((r3 q.x q.a) : Array Value).toList ++ (flatQ (M ++ List.replicate (n + 1) RV0)).toArray.toList.drop (off + ((r3 q.x q.a) : Array Value).size))).toArray = cs ∧ (w.setRow g cs).heap[g]? = some (.cells (flatQ ((M ++ [q]) ++ List.replicate n RV0)).toArray T (0, 0)) := by
  subst hM; subst ho
  have e : flatQ (M ++ List.replicate (n + 1) RV0) = flatQ M ++ (qcl RV0 ++ flatQ (List.replicate n RV0)) := by rw [List.replicate_succ, flatQ_app, flatQ_cons]
  have e2 : flatQ ((M ++ [q]) ++ List.replicate n RV0) = flatQ M ++ (qcl q ++ flatQ (List.replicate n RV0)) := by rw [flatQ_app, flatQ_app, List.append_assoc]; simp [flatQ]
  have hl : (flatQ M).length = M.length * 3 := flatQ_length M
  refine ⟨(flatQ ((M ++ [q]) ++ List.replicate n RV0)).toArray, ?_, rowV_set P _⟩
  show (List.take (M.length * 3) (flatQ (M ++ List.replicate (n + 1) RV0)) ++ (qcl q ++ List.drop (M.length * 3 + 3) (flatQ (M ++ List.replicate (n + 1) RV0)))).toArray = _
  rw [e, e2, ← hl, List.take_left, ← List.drop_drop, List.drop_left]
  rfl
theorem row_holdQ {n k off : Nat} {M : List RV} (hM : M.length = k) (ho : off = k * 3) : off + 3 ≤ (flatQ (M ++ List.replicate (n + 1) RV0)).toArray.size := by
  rw [List.size_toArray, flatQ_length, List.length_append, List.length_replicate, hM, ho]; omega
theorem flatQ_one1 (M : List RV) : (flatQ M).toArray.all (·.oneCell') = true := by
  rw [List.all_toArray]
  apply List.all_eq_true.2
  intro v hv
  obtain ⟨p, hp, h1⟩ := List.mem_flatMap.1 hv
  unfold qcl at h1
  simp only [List.mem_cons, List.not_mem_nil, or_false] at h1
  rcases h1 with rfl | rfl | rfl <;> rfl
theorem cap_apq {M : List RV} {q : RV} (h : ∀ p, p ∈ M → CapQ p) (hq : CapQ q) : ∀ p, p ∈ M ++ [q] → CapQ p := fun p hp => by
  rcases List.mem_append.1 hp with h1 | h1
  · exact h p h1
  · rw [List.mem_singleton] at h1; subst h1; exact hq
end Go.Proofs.YtppdholccpgcpaaGreat
