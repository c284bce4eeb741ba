/-
  The gradients of a triangle: words for both.
-/
import Derived.Test.YtppdholccpgcpaaGreatLawP
import Derived.Test.YtppdholccpgcpaaGreatGrA
import Derived.Test.YtppdholccpgcpaaGreatTriI
import Derived.Test.YtppdholccpgcpaaGreatSl
import Derived.Test.YtppdholccpgcpaaGreatStore
namespace Go.Proofs.YtppdholccpgcpaaGreat
open Go.ChangeShapes Go.WideShapes Go.ChangeAt Go.RowKit
set_option linter.unusedVariables false
set_option linter.unusedSimpArgs false
set_option maxRecDepth 4000
theorem wp_store_at {P : Program} {o : Oper} {a : Act} {w : World} {K : Act → World → Prop} {Q : Exit → Act → World → Prop} (ty : TypeId) (x y : Operand) (ho : o.op = .store ty x y)
    (g off : Nat) (cells : Array Value) (hx : a.eval x = .pointer (some ⟨g, off, none⟩)) (hy : a.eval y = .agg cells)
    (t : TypeId) (old : Array Value) (hg : w.heap[g]? = some (.cells old t (0, 0))) (hi : (P.info? ty).map (·.size) = some cells.size)
    (hold : off + cells.size ≤ old.size) (h1 : cells.all (·.oneCell') = true)
    (h : K (a.put o.dst undef) (w.setRow g (old.toList.take off ++ (cells.toList ++ old.toList.drop (off + cells.size))).toArray)) : o.wp P a w K Q := by
  unfold Oper.wp execOp
  simp only [ho, hx, hy, Instr.storeAt, Instr.sureAddr, Sem.run_bind, Sem.run_pure, Result.andThen_ok, run_storeVar_at w g off t ty old cells hg hi hold h1]
  exact h
def tX (j k : PV) (s : Option Rat) : Option Rat := bothX (binQ mulQ s (nX j k)) (binQ mulQ s (nY j k))
def tY (j k : PV) (s : Option Rat) : Option Rat := bothY (binQ mulQ s (nX j k)) (binQ mulQ s (nY j k))
theorem tX_fit (j k : PV) (s : Option Rat) : FitO (tX j k s) := bothX_fit (mulO_fit _ _)
theorem tY_fit (j k : PV) (s : Option Rat) : FitO (tY j k s) := bothY_fit (mulO_fit _ _)
def gl3 (x0 y0 x1 y1 x2 y2 : R3) : List PV :=
  if 0 < x0.m.length ∧ 0 < x1.m.length ∧ 0 < x2.m.length then [⟨x0, y0, noA, noA⟩, ⟨x1, y1, noA, noA⟩, ⟨x2, y2, noA, noA⟩] else []
def gradV (p q r : PV) (s : Option Rat) : List PV := gl3 (ofO (tX q r s)) (ofO (tY q r s)) (ofO (tX r p s)) (ofO (tY r p s)) (ofO (tX p q s)) (ofO (tY p q s))
def gradL (L : List PV) : List PV := gradV (tri1 L) (tri2 L) (tri3 L) (invO (aT L))
theorem made_none (B : Nat) {w w' : World} {L : List PV} (h : L = []) (kb : Below w.heap.size w w') : MadePS B L w (.returned (.slice none 0 0)) w' := by
  subst h
  refine ⟨[], none, 0, rfl, Nat.le_refl _, rfl, (fun p hp => by cases hp), ?_, Aparts.one _, kb⟩
  exact Owns.cons (.inl rfl) (fun g hg => by simp [rowOf, flat] at hg) (Owns.nil _ _ _)
theorem row_store {w : World} {g n k : Nat} {T : TypeId} {M : List PV} (hM : M.length = k) (P : w.heap[g]? = some (.cells (flat (M ++ List.replicate (n + 1) PV0)).toArray T (0, 0))) (q : PV) :
    (w.setRow g ((flat (M ++ List.replicate (n + 1) PV0)).toArray.toList.take (k * 6) ++ (((p6 q) : Array Value).toList ++ (flat (M ++ List.replicate (n + 1) PV0)).toArray.toList.drop (k * 6 + ((p6 q) : Array Value).size))).toArray).heap[g]? = some (.cells (flat ((M ++ [q]) ++ List.replicate n PV0)).toArray T (0, 0)) := by
  subst hM
  have hg : (M ++ List.replicate (n + 1) PV0)[M.length]? = some PV0 := by rw [List.getElem?_append_right (Nat.le_refl _), Nat.sub_self]; rfl
  have h6 := flat_store hg q
  have hs6 := set_app M M.length q PV0 (List.replicate n PV0)
  rw [show List.replicate (n + 1) PV0 = PV0 :: List.replicate n PV0 from rfl] at h6 P ⊢
  rw [hs6] at h6
  rw [← h6]
  exact rowV_set P _
theorem row_ex {w : World} {g n k : Nat} {T : TypeId} {M : List PV} (hM : M.length = k) (P : w.heap[g]? = some (.cells (flat (M ++ List.replicate (n + 1) PV0)).toArray T (0, 0))) (q : PV) :
    ∃ cs, ((flat (M ++ List.replicate (n + 1) PV0)).toArray.toList.take (k * 6) ++ (((p6 q) : Array Value).toList ++ (flat (M ++ List.replicate (n + 1) PV0)).toArray.toList.drop (k * 6 + ((p6 q) : Array Value).size))).toArray = cs ∧ (w.setRow g cs).heap[g]? = some (.cells (flat ((M ++ [q]) ++ List.replicate n PV0)).toArray T (0, 0)) :=
  ⟨_, rfl, row_store hM P q⟩
theorem cap_app {M : List PV} {q : PV} (h : ∀ p, p ∈ M → CapP p) (hq : CapP q) : ∀ p, p ∈ M ++ [q] → CapP p := fun p hp => by
  rcases List.mem_append.1 hp with h1 | h1
  · exact h p h1
  · rw [List.mem_singleton] at h1; subst h1; exact hq
theorem row_hold {n k : Nat} {M : List PV} (hM : M.length = k) : k * 6 + 6 ≤ (flat (M ++ List.replicate (n + 1) PV0)).toArray.size := by
  rw [List.size_toArray, flat_length, List.length_append, List.length_replicate, hM]; omega
end Go.Proofs.YtppdholccpgcpaaGreat
