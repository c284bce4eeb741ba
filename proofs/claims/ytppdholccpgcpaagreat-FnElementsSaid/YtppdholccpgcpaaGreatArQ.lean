/-
  Local matrices: nine fractions in one block.
-/
import Derived.Test.YtppdholccpgcpaaGreatWp
import Derived.Test.YtppdholccpgcpaaGreatElW
import Derived.Test.YtppdholccpgcpaaGreatMatF
import Derived.Test.YtppdholccpgcpaaGreatPkI
import Derived.Test.YtppdholccpgcpaaGreatRm
import Derived.Test.YtppdholccpgcpaaGreatStore
namespace Go.Proofs.YtppdholccpgcpaaGreat
open Go.ChangeShapes Go.WideShapes Go.ChangeAt Go.RowKit
set_option linter.unusedVariables false
set_option linter.unusedSimpArgs false
set_option maxRecDepth 4000
theorem ratq_size : (Tryz.prog.info? 29).map (·.size) = some 3 := by kernel_rfl
theorem m9_size : (Tryz.prog.info? 100).map (·.size) = some 27 := by kernel_rfl
theorem m9_agg (w : World) : (isAgg 100).run Tryz.prog w = .ok true w := by simp [isAgg, run_underlying Tryz.underlying100]
theorem r3_size : (Tryz.prog.info? 79).map (·.size) = some 9 := by kernel_rfl
theorem r3_agg (w : World) : (isAgg 79).run Tryz.prog w = .ok true w := by simp [isAgg, run_underlying Tryz.underlying79]
theorem ratq_agg (w : World) : (isAgg 29).run Tryz.prog w = .ok true w := by simp [isAgg, run_underlying Tryz.underlying29]
def nine (F : Nat → Nat → Option Rat) : List R3 := [ofO (F 0 0), ofO (F 0 1), ofO (F 0 2), ofO (F 1 0), ofO (F 1 1), ofO (F 1 2), ofO (F 2 0), ofO (F 2 1), ofO (F 2 2)]
theorem nine_take (F : Nat → Nat → Option Rat) {i j : Nat} (hi : i < 3) (hj : j < 3) : (nine F).take (3 * i + j + 1) = (nine F).take (3 * i + j) ++ [ofO (F i j)] := by
  have h1 : i = 0 ∨ i = 1 ∨ i = 2 := by omega
  have h2 : j = 0 ∨ j = 1 ∨ j = 2 := by omega
  rcases h1 with rfl | rfl | rfl <;> rcases h2 with rfl | rfl | rfl <;> rfl
theorem nine_all (F : Nat → Nat → Option Rat) : (nine F).take 9 = nine F ∧ (nine F).take 0 = [] := ⟨rfl, rfl⟩
def MadeM9 (B : Nat) (D : List R3) (w : World) (e : Ending) (w' : World) : Prop :=
  ∃ M : List RV, e = .returned (.agg (flatQ M).toArray) ∧ M.length = 9 ∧ datQ M = D ∧ (∀ p, p ∈ M → CapQ p) ∧ Owns B w'.heap.size w' (lrowQ M) ∧ Aparts (lrowQ M) ∧ Below w.heap.size w w'
theorem row_exQ {w : World} {g n k off : Nat} {T : TypeId} {M : List RV} (hM : M.length = k) (ho : off = k * 3) (P : w.heap[g]? = some (.cells (flatQ (M ++ List.replicate (n + 1) RV0)).toArray T (0, 0))) (q : RV) :
    ∃ cs, ((flatQ (M ++ List.replicate (n + 1) RV0)).toArray.toList.take off ++ (((r3 q.x q.a) : Array Value).toList ++ (flatQ (M ++ List.replicate (n + 1) RV0)).toArray.toList.drop (off + ((r3 q.x q.a) : Array Value).size))).toArray = cs ∧ (w.setRow g cs).heap[g]? = some (.cells (flatQ ((M ++ [q]) ++ List.replicate n RV0)).toArray T (0, 0)) := by
  subst hM; subst ho
  have e : flatQ (M ++ List.replicate (n + 1) RV0) = flatQ M ++ (qcl RV0 ++ flatQ (List.replicate n RV0)) := by rw [List.replicate_succ, flatQ_app, flatQ_cons]
  have e2 : flatQ ((M ++ [q]) ++ List.replicate n RV0) = flatQ M ++ (qcl q ++ flatQ (List.replicate n RV0)) := by rw [flatQ_app, flatQ_app, List.append_assoc]; simp [flatQ]
  have hl : (flatQ M).length = M.length * 3 := flatQ_length M
  refine ⟨(flatQ ((M ++ [q]) ++ List.replicate n RV0)).toArray, ?_, rowV_set P _⟩
  show (List.take (M.length * 3) (flatQ (M ++ List.replicate (n + 1) RV0)) ++ (qcl q ++ List.drop (M.length * 3 + 3) (flatQ (M ++ List.replicate (n + 1) RV0)))).toArray = _
  rw [e, e2, ← hl, List.take_left, ← List.drop_drop, List.drop_left]
  rfl
theorem row_holdQ {n k off : Nat} {M : List RV} (hM : M.length = k) (ho : off = k * 3) : off + 3 ≤ (flatQ (M ++ List.replicate (n + 1) RV0)).toArray.size := by
  rw [List.size_toArray, flatQ_length, List.length_append, List.length_replicate, hM, ho]; omega
theorem flatQ_one1 (M : List RV) : (flatQ M).toArray.all (·.oneCell') = true := by
  rw [List.all_toArray]
  apply List.all_eq_true.2
  intro v hv
  obtain ⟨p, hp, h1⟩ := List.mem_flatMap.1 hv
  unfold qcl at h1
  simp only [List.mem_cons, List.not_mem_nil, or_false] at h1
  rcases h1 with rfl | rfl | rfl <;> rfl
theorem cap_apq {M : List RV} {q : RV} (h : ∀ p, p ∈ M → CapQ p) (hq : CapQ q) : ∀ p, p ∈ M ++ [q] → CapQ p := fun p hp => by
  rcases List.mem_append.1 hp with h1 | h1
  · exact h p h1
  · rw [List.mem_singleton] at h1; subst h1; exact hq
theorem flat_cut {M : List RV} {a n : Nat} (ha : a + n ≤ M.length) : (flatQ M).toArray.extract (a * 3) (a * 3 + n * 3) = (flatQ ((M.drop a).take n)).toArray := by
  have e : flatQ M = flatQ (M.take a) ++ (flatQ ((M.drop a).take n) ++ flatQ ((M.drop a).drop n)) := by
    rw [← flatQ_app, List.take_append_drop, ← flatQ_app, List.take_append_drop]
  have hl : (flatQ (M.take a)).length = a * 3 := by rw [flatQ_length, List.length_take, Nat.min_eq_left (by omega)]
  have hl2 : (flatQ ((M.drop a).take n)).length = n * 3 := by rw [flatQ_length, List.length_take, List.length_drop, Nat.min_eq_left (by omega)]
  apply Array.ext'
  rw [Array.toList_extract]
  show List.extract (flatQ M) _ _ = flatQ _
  rw [List.extract_eq_take_drop, Nat.add_sub_cancel_left, e, ← hl, List.drop_left, ← hl2, List.take_left]
theorem run_idxM {M : List RV} (h9 : M.length = 9) {i : Nat} (hi : i < 3) (w : World) : (Instr.index 100 (.agg (flatQ M).toArray) (.int .i64 (i : Int))).run Tryz.prog w = .ok (.agg (flatQ ((M.drop (3 * i)).take 3)).toArray) w := by
  have e : (flatQ M).toArray.extract (i * 9) (i * 9 + 9) = (flatQ ((M.drop (3 * i)).take 3)).toArray := by
    have := flat_cut (M := M) (a := 3 * i) (n := 3) (by omega)
    rw [show 3 * i * 3 = i * 9 by omega] at this
    exact this
  have h0 : (0 : Int) ≤ (i : Int) ∧ (i : Int) < 3 := by omega
  simp [Instr.index, asIntOf, run_underlying Tryz.underlying100, Go.part, r3_agg, run_size r3_size]
  rw [if_pos hi, ← e]
  simp
theorem run_idxR {M : List RV} (h3 : M.length = 3) {j : Nat} {p : RV} (hp : M[j]? = some p) (w : World) : (Instr.index 79 (.agg (flatQ M).toArray) (.int .i64 (j : Int))).run Tryz.prog w = .ok (.agg (r3 p.x p.a)) w := by
  have hj := lt_of_getQ hp
  have e : (flatQ M).toArray.extract (j * 3) (j * 3 + 3) = (r3 p.x p.a) := by
    have h1 := flat_cut (M := M) (a := j) (n := 1) (by omega)
    have h2 : (M.drop j).take 1 = [p] := by
      have h3 : M[j] = p := by rw [List.getElem?_eq_getElem hj] at hp; injection hp
      rw [List.drop_eq_getElem_cons hj, h3]; rfl
    rw [h2] at h1
    exact h1
  have h0 : (0 : Int) ≤ (j : Int) ∧ (j : Int) < 3 := by omega
  simp [Instr.index, asIntOf, run_underlying Tryz.underlying79, Go.part, ratq_agg, run_size ratq_size]
  rw [if_pos (by omega), ← e]
  simp
def aHalf (p q r : PV) : Option Rat := binQ mulQ (aV p q r) (ofQ 1 2)
def mF (p q r : PV) (i j : Nat) : Option Rat := binQ mulQ (aHalf p q r) (ofQ 1 (if i = j then 6 else 12))
theorem mF_fit (p q r : PV) (i j : Nat) : FitO (mF p q r i j) := binmul_fit _ _
end Go.Proofs.YtppdholccpgcpaaGreat
