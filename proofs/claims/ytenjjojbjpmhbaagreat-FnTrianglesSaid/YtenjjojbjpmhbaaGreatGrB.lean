/-
  The gradients of a triangle: words for both.
-/
import Derived.Test.YtenjjojbjpmhbaaGreatWp
import Derived.Test.YtenjjojbjpmhbaaGreatGrA
import Derived.Test.YtenjjojbjpmhbaaGreatTriI
import Derived.Test.YtenjjojbjpmhbaaGreatSlT
namespace Go.Proofs.YtenjjojbjpmhbaaGreat
open Go.ChangeShapes Go.WideShapes Go.ChangeAt Go.RowKit
set_option linter.unusedVariables false
set_option linter.unusedSimpArgs false
set_option maxRecDepth 4000
/-- A store of several cells into a block, within a drawn statement. -/
theorem wp_store_at {P : Program} {o : Oper} {a : Act} {w : World} {K : Act → World → Prop} {Q : Exit → Act → World → Prop} (ty : TypeId) (x y : Operand) (ho : o.op = .store ty x y)
    (g off : Nat) (cells : Array Value) (hx : a.eval x = .pointer (some ⟨g, off, none⟩)) (hy : a.eval y = .agg cells)
    (t : TypeId) (old : Array Value) (hg : w.heap[g]? = some (.cells old t (0, 0))) (hi : (P.info? ty).map (·.size) = some cells.size)
    (hold : off + cells.size ≤ old.size) (h1 : cells.all (·.oneCell') = true)
    (h : K (a.put o.dst undef) (w.setRow g (old.toList.take off ++ (cells.toList ++ old.toList.drop (off + cells.size))).toArray)) : o.wp P a w K Q := by
  unfold Oper.wp execOp
  simp only [ho, hx, hy, Instr.storeAt, Instr.sureAddr, Sem.run_bind, Sem.run_pure, Result.andThen_ok, run_storeVar_at w g off t ty old cells hg hi hold h1]
  exact h
/-- The gradient that belongs to the corner before j and k; s is the inverse of the area. -/
def tX (j k : PV) (s : Option Rat) : Option Rat := bothX (binQ mulQ s (nX j k)) (binQ mulQ s (nY j k))
def tY (j k : PV) (s : Option Rat) : Option Rat := bothY (binQ mulQ s (nX j k)) (binQ mulQ s (nY j k))
theorem tX_fit (j k : PV) (s : Option Rat) : FitO (tX j k s) := bothX_fit (mulO_fit _ _)
def gl3 (x0 y0 x1 y1 x2 y2 : R3) : List PV :=
  if 0 < x0.m.length ∧ 0 < x1.m.length ∧ 0 < x2.m.length then [⟨x0, y0, noA, noA⟩, ⟨x1, y1, noA, noA⟩, ⟨x2, y2, noA, noA⟩] else []
def gradV (p q r : PV) (s : Option Rat) : List PV := gl3 (ofO (tX q r s)) (ofO (tY q r s)) (ofO (tX r p s)) (ofO (tY r p s)) (ofO (tX p q s)) (ofO (tY p q s))
def gradL (L : List PV) : List PV := gradV (tri1 L) (tri2 L) (tri3 L) (invO (aT L))
theorem made_none (B : Nat) {w w' : World} {L : List PV} (h : L = []) (kb : Below w.heap.size w w') : MadePS B L w (.returned (.slice none 0 0)) w' := by
  subst h
  refine ⟨[], none, 0, rfl, Nat.le_refl _, rfl, (fun p hp => by cases hp), ?_, Aparts.one _, kb⟩
  exact Owns.cons (.inl rfl) (fun g hg => by simp [rowOf, flat] at hg) (Owns.nil _ _ _)
theorem made_row {B g n : Nat} {w w' : World} {L M : List PV} {T : TypeId} (hB : B ≤ g) (P : w'.heap[g]? = some (.cells (flat M).toArray T (0, 0))) (hM : M.length = n) (hd : dat M = dat L) (hcap : ∀ p, p ∈ M → CapP p)
    (hO : Owns (g + 1) w'.heap.size w' (lrow M)) (hap : Aparts (lrow M)) (kb : Below w.heap.size w w') : MadePS B L w (.returned (.slice (some ⟨g, 0, none⟩) n n)) w' := by
  subst hM
  have hown : OwnS B w' (some ⟨g, 0, none⟩) (flat M) := by
    have h := OwnS.of_row P hB
    simpa using h
  have hz := rblk_lt P
  refine ⟨M, some ⟨g, 0, none⟩, M.length, rfl, Nat.le_refl _, hd, hcap, ?_, ?_, kb⟩
  · refine Owns.cons hown (fun g' hg => ?_) (hO.wide (by omega) (Nat.le_refl _))
    unfold rowOf at hg
    split at hg
    · cases hg
    · simp at hg; omega
  · refine List.Pairwise.cons (fun s hs => ?_) hap
    have h1 := (hO s hs).2
    exact InR.apart (lo := g) (hi := g + 1) (fun g' hg => by
      unfold rowOf at hg
      split at hg
      · cases hg
      · simp at hg; omega) h1 (.inl (Nat.le_refl _))
/-- The element that a store puts behind the first ones. -/
theorem row_store {w : World} {g n k : Nat} {T : TypeId} {M : List PV} (hM : M.length = k) (P : w.heap[g]? = some (.cells (flat (M ++ List.replicate (n + 1) PV0)).toArray T (0, 0))) (q : PV) :
    (w.setRow g ((flat (M ++ List.replicate (n + 1) PV0)).toArray.toList.take (k * 6) ++ (((p6 q) : Array Value).toList ++ (flat (M ++ List.replicate (n + 1) PV0)).toArray.toList.drop (k * 6 + ((p6 q) : Array Value).size))).toArray).heap[g]? = some (.cells (flat ((M ++ [q]) ++ List.replicate n PV0)).toArray T (0, 0)) := by
  subst hM
  have hg : (M ++ List.replicate (n + 1) PV0)[M.length]? = some PV0 := by rw [List.getElem?_append_right (Nat.le_refl _), Nat.sub_self]; rfl
  have h6 := flat_store hg q
  have hs6 := set_app M M.length q PV0 (List.replicate n PV0)
  rw [show List.replicate (n + 1) PV0 = PV0 :: List.replicate n PV0 from rfl] at h6 P ⊢
  rw [hs6] at h6
  rw [← h6]
  exact rowV_set P _
theorem row_ex {w : World} {g n k : Nat} {T : TypeId} {M : List PV} (hM : M.length = k) (P : w.heap[g]? = some (.cells (flat (M ++ List.replicate (n + 1) PV0)).toArray T (0, 0))) (q : PV) :
    ∃ cs, ((flat (M ++ List.replicate (n + 1) PV0)).toArray.toList.take (k * 6) ++ (((p6 q) : Array Value).toList ++ (flat (M ++ List.replicate (n + 1) PV0)).toArray.toList.drop (k * 6 + ((p6 q) : Array Value).size))).toArray = cs ∧ (w.setRow g cs).heap[g]? = some (.cells (flat ((M ++ [q]) ++ List.replicate n PV0)).toArray T (0, 0)) :=
  ⟨_, rfl, row_store hM P q⟩
theorem get_mid {M R : List PV} {k : Nat} (hM : M.length = k) (q : PV) : ((M ++ [q]) ++ R)[k]? = some q := by
  subst hM; simp
theorem cap_app {M : List PV} {q : PV} (h : ∀ p, p ∈ M → CapP p) (hq : CapP q) : ∀ p, p ∈ M ++ [q] → CapP p := fun p hp => by
  rcases List.mem_append.1 hp with h1 | h1
  · exact h p h1
  · rw [List.mem_singleton] at h1; subst h1; exact hq
theorem row_six {w : World} {g k : Nat} {T : TypeId} {L : List PV} {q : PV} (P : w.heap[g]? = some (.cells (flat L).toArray T (0, 0))) (h : L[k]? = some q) :
    w.cell? ⟨g, k * 6, none⟩ = some (.bool q.x.p) ∧ w.cell? ⟨g, k * 6 + 1, none⟩ = some (.slice q.a.A q.x.l.length q.a.c) ∧ w.cell? ⟨g, k * 6 + 2, none⟩ = some (.slice q.a.D q.x.m.length q.a.d) := by
  have h1 := OwnS.of_row P (Nat.le_refl g)
  rw [List.toList_toArray] at h1
  have h6 := (h1.sixc h).1
  exact ⟨h6.1, h6.2.1, h6.2.2.1⟩
theorem row_hold {n k : Nat} {M : List PV} (hM : M.length = k) : k * 6 + 6 ≤ (flat (M ++ List.replicate (n + 1) PV0)).toArray.size := by
  rw [List.size_toArray, flat_length, List.length_append, List.length_replicate, hM]; omega
end Go.Proofs.YtenjjojbjpmhbaaGreat
