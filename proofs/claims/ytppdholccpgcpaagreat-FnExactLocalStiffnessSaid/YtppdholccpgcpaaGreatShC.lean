/-
  The gradients of a triangle: words for both.
-/
import Derived.Test.YtppdholccpgcpaaGreatWp
import Derived.Test.YtppdholccpgcpaaGreatGrA
import Derived.Test.YtppdholccpgcpaaGreatTriI
import Derived.Test.YtppdholccpgcpaaGreatSlT
import Derived.Test.YtppdholccpgcpaaGreatTriC
import Derived.Test.YtppdholccpgcpaaGreatTriS
import Derived.Test.YtppdholccpgcpaaGreatPkH
import Derived.Test.YtppdholccpgcpaaGreatPkI
import Derived.Test.YtppdholccpgcpaaGreatTriA
namespace Go.Proofs.YtppdholccpgcpaaGreat
open Go.ChangeShapes Go.WideShapes Go.ChangeAt Go.RowKit
set_option linter.unusedVariables false
set_option linter.unusedSimpArgs false
set_option maxRecDepth 4000
theorem wp_store_at {P : Program} {o : Oper} {a : Act} {w : World} {K : Act → World → Prop} {Q : Exit → Act → World → Prop} (ty : TypeId) (x y : Operand) (ho : o.op = .store ty x y)
    (g off : Nat) (cells : Array Value) (hx : a.eval x = .pointer (some ⟨g, off, none⟩)) (hy : a.eval y = .agg cells)
    (t : TypeId) (old : Array Value) (hg : w.heap[g]? = some (.cells old t (0, 0))) (hi : (P.info? ty).map (·.size) = some cells.size)
    (hold : off + cells.size ≤ old.size) (h1 : cells.all (·.oneCell') = true)
    (h : K (a.put o.dst undef) (w.setRow g (old.toList.take off ++ (cells.toList ++ old.toList.drop (off + cells.size))).toArray)) : o.wp P a w K Q := by
  unfold Oper.wp execOp
  simp only [ho, hx, hy, Instr.storeAt, Instr.sureAddr, Sem.run_bind, Sem.run_pure, Result.andThen_ok, run_storeVar_at w g off t ty old cells hg hi hold h1]
  exact h
theorem mulO_comm (x y : Option Rat) : binQ mulQ x y = binQ mulQ y x := by
  cases x with
  | none => cases y <;> rfl
  | some r =>
    cases y with
    | none => rfl
    | some s => show mulQ r s = mulQ s r; unfold mulQ; rw [Rat.mul_comm]
def tX (j k : PV) (s : Option Rat) : Option Rat := bothX (binQ mulQ s (nX j k)) (binQ mulQ s (nY j k))
def tY (j k : PV) (s : Option Rat) : Option Rat := bothY (binQ mulQ s (nX j k)) (binQ mulQ s (nY j k))
theorem tX_fit (j k : PV) (s : Option Rat) : FitO (tX j k s) := bothX_fit (mulO_fit _ _)
theorem tY_fit (j k : PV) (s : Option Rat) : FitO (tY j k s) := bothY_fit (mulO_fit _ _)
def gl3 (x0 y0 x1 y1 x2 y2 : R3) : List PV :=
  if 0 < x0.m.length ∧ 0 < x1.m.length ∧ 0 < x2.m.length then [⟨x0, y0, noA, noA⟩, ⟨x1, y1, noA, noA⟩, ⟨x2, y2, noA, noA⟩] else []
def gradV (p q r : PV) (s : Option Rat) : List PV := gl3 (ofO (tX q r s)) (ofO (tY q r s)) (ofO (tX r p s)) (ofO (tY r p s)) (ofO (tX p q s)) (ofO (tY p q s))
def gradL (L : List PV) : List PV := gradV (tri1 L) (tri2 L) (tri3 L) (invO (aT L))
theorem len_pos (o : Option Rat) : decide (0 < (ofO o).m.length) = o.isSome := by
  cases o with
  | none => rfl
  | some r => show decide (0 < (nd r.den).length) = true; rw [nd_length]; exact decide_eq_true (by have := ln_pos r.den_pos; omega)
theorem muls_none (o : Option Rat) : binQ mulQ o none = none := by cases o <;> rfl
theorem tX_quo (j k : PV) (s : Option Rat) : tX j k (invO s) = bothX (binQ quoQ (binQ subQ (valx j.y) (valx k.y)) s) (binQ quoQ (binQ subQ (valx k.x) (valx j.x)) s) ∧ tY j k (invO s) = bothY (binQ quoQ (binQ subQ (valx j.y) (valx k.y)) s) (binQ quoQ (binQ subQ (valx k.x) (valx j.x)) s) := by
  unfold tX tY nX nY
  rw [← mul_invO, ← mul_invO, mulO_comm _ (invO s), mulO_comm _ (invO s)]
  generalize binQ subQ (valx j.y) (valx k.y) = a
  generalize binQ subQ (valx k.x) (valx j.x) = b
  generalize invO s = v
  cases a with
  | none => rw [(both_n1 b).1, (both_n1 b).2, muls_none, (both_n1 _).1, (both_n1 _).2, (both_n1 _).1, (both_n1 _).2]; exact ⟨rfl, rfl⟩
  | some a =>
    cases b with
    | none => rw [(both_n2 (some a)).1, (both_n2 (some a)).2, muls_none, (both_n2 _).1, (both_n2 _).2, (both_n2 _).1, (both_n2 _).2]; exact ⟨rfl, rfl⟩
    | some b => exact ⟨rfl, rfl⟩
theorem made_none (B : Nat) {w w' : World} {L : List PV} (h : L = []) (kb : Below w.heap.size w w') : MadePS B L w (.returned (.slice none 0 0)) w' := by
  subst h
  refine ⟨[], none, 0, rfl, Nat.le_refl _, rfl, (fun p hp => by cases hp), ?_, Aparts.one _, kb⟩
  exact Owns.cons (.inl rfl) (fun g hg => by simp [rowOf, flat] at hg) (Owns.nil _ _ _)
theorem row_store {w : World} {g n k : Nat} {T : TypeId} {M : List PV} (hM : M.length = k) (P : w.heap[g]? = some (.cells (flat (M ++ List.replicate (n + 1) PV0)).toArray T (0, 0))) (q : PV) :
    (w.setRow g ((flat (M ++ List.replicate (n + 1) PV0)).toArray.toList.take (k * 6) ++ (((p6 q) : Array Value).toList ++ (flat (M ++ List.replicate (n + 1) PV0)).toArray.toList.drop (k * 6 + ((p6 q) : Array Value).size))).toArray).heap[g]? = some (.cells (flat ((M ++ [q]) ++ List.replicate n PV0)).toArray T (0, 0)) := by
  subst hM
  have hg : (M ++ List.replicate (n + 1) PV0)[M.length]? = some PV0 := by rw [List.getElem?_append_right (Nat.le_refl _), Nat.sub_self]; rfl
  have h6 := flat_store hg q
  have hs6 := set_app M M.length q PV0 (List.replicate n PV0)
  rw [show List.replicate (n + 1) PV0 = PV0 :: List.replicate n PV0 from rfl] at h6 P ⊢
  rw [hs6] at h6
  rw [← h6]
  exact rowV_set P _
theorem row_ex {w : World} {g n k : Nat} {T : TypeId} {M : List PV} (hM : M.length = k) (P : w.heap[g]? = some (.cells (flat (M ++ List.replicate (n + 1) PV0)).toArray T (0, 0))) (q : PV) :
    ∃ cs, ((flat (M ++ List.replicate (n + 1) PV0)).toArray.toList.take (k * 6) ++ (((p6 q) : Array Value).toList ++ (flat (M ++ List.replicate (n + 1) PV0)).toArray.toList.drop (k * 6 + ((p6 q) : Array Value).size))).toArray = cs ∧ (w.setRow g cs).heap[g]? = some (.cells (flat ((M ++ [q]) ++ List.replicate n PV0)).toArray T (0, 0)) :=
  ⟨_, rfl, row_store hM P q⟩
theorem cap_app {M : List PV} {q : PV} (h : ∀ p, p ∈ M → CapP p) (hq : CapP q) : ∀ p, p ∈ M ++ [q] → CapP p := fun p hp => by
  rcases List.mem_append.1 hp with h1 | h1
  · exact h p h1
  · rw [List.mem_singleton] at h1; subst h1; exact hq
theorem row_hold {n k : Nat} {M : List PV} (hM : M.length = k) : k * 6 + 6 ≤ (flat (M ++ List.replicate (n + 1) PV0)).toArray.size := by
  rw [List.size_toArray, flat_length, List.length_append, List.length_replicate, hM]; omega
end Go.Proofs.YtppdholccpgcpaaGreat
namespace Go.Proofs.YtppdholccpgcpaaGreat
open Go.ChangeShapes Go.WideShapes Go.ChangeAt Go.RowKit
set_option linter.unusedVariables false
set_option linter.unusedSimpArgs false
set_option maxRecDepth 4000
theorem a3_agg (w : World) : (isAgg 80).run Tryz.prog w = .ok true w := by simp [isAgg, run_underlying Tryz.underlying80]
theorem a3_size : (Tryz.prog.info? 80).map (·.size) = some 18 := by kernel_rfl
def MadeP3 (B : Nat) (D : List (R3 × R3)) (w : World) (e : Ending) (w' : World) : Prop :=
  ∃ (g0 g1 g2 : PV), e = .returned (.agg (p18 g0 g1 g2)) ∧ dat [g0, g1, g2] = D ∧ (∀ p, p ∈ [g0, g1, g2] → CapP p) ∧ Owns B w'.heap.size w' (lrow [g0, g1, g2]) ∧ Aparts (lrow [g0, g1, g2]) ∧ Below w.heap.size w w'
def gjk (p q r : PV) : Nat → PV × PV
  | 0 => (q, r)
  | 1 => (r, p)
  | _ => (p, q)
def gU (p q r : PV) (j : Nat) : Option Rat := tX (gjk p q r j).1 (gjk p q r j).2 (invO (aV p q r))
def gV (p q r : PV) (j : Nat) : Option Rat := tY (gjk p q r j).1 (gjk p q r j).2 (invO (aV p q r))
def gD (p q r : PV) : List (R3 × R3) := [(ofO (gU p q r 0), ofO (gV p q r 0)), (ofO (gU p q r 1), ofO (gV p q r 1)), (ofO (gU p q r 2), ofO (gV p q r 2))]
theorem gU_fit (p q r : PV) (j : Nat) : FitO (gU p q r j) := tX_fit _ _ _
theorem gV_fit (p q r : PV) (j : Nat) : FitO (gV p q r j) := tY_fit _ _ _
theorem three_take (U V : Nat → R3) {j : Nat} (h : j < 3) : [(U 0, V 0), (U 1, V 1), (U 2, V 2)].take (j + 1) = [(U 0, V 0), (U 1, V 1), (U 2, V 2)].take j ++ [(U j, V j)] := by
  have : j = 0 ∨ j = 1 ∨ j = 2 := by omega
  rcases this with rfl | rfl | rfl <;> rfl
theorem three_pv {M : List PV} (h : M.length = 3) : ∃ a b c, M = [a, b, c] := by
  match M, h with
  | [a, b, c], _ => exact ⟨a, b, c, rfl⟩
end Go.Proofs.YtppdholccpgcpaaGreat
namespace Go.Proofs.YtppdholccpgcpaaGreat
open Go.ChangeShapes Go.WideShapes Go.ChangeAt Go.RowKit
set_option linter.unusedVariables false
set_option linter.unusedSimpArgs false
set_option maxRecDepth 4000
theorem quoO_fit (x y : Option Rat) : FitO (binQ quoQ x y) := FitO.bin (fun r s t h => by
  unfold quoQ at h
  split at h
  · cases h
  · exact cutQ_fit h) x y
theorem spec_div_r (x u : R3) (a c : Ad) (w : World) (hxl : x.l.length ≤ 9223372036854775807) (hxm : x.m.length ≤ 9223372036854775807) (hul : u.l.length ≤ 9223372036854775807) (hum : u.m.length ≤ 9223372036854775807) (kx : x.l.length ≤ a.c ∧ x.m.length ≤ a.d) (ku : u.l.length ≤ c.c ∧ u.m.length ≤ c.d) (h : Rds w (rows x a)) (h' : Rds w (rows u c)) :
    Calls Tryz.prog 101 #[.agg (r3 x a), .agg (r3 u c)] w (MadeQ w.heap.size (ofO (binQ quoQ (valx x) (valx u))) w) :=
  (spec_rdiv x.p u.p x.l x.m u.l u.m a.A a.D c.A c.D _ _ _ _ a.c a.d c.c c.d w rfl rfl rfl rfl hxl hxm hul hum kx.1 kx.2 ku.1 ku.2 (rows_rd h).1 (rows_rd h).2 (rows_rd h').1 (rows_rd h').2).mono fun e w' k => MadeR.toQ (x := ofO (binQ quoQ (valx x) (valx u))) k
end Go.Proofs.YtppdholccpgcpaaGreat
