/-
  An array of three points: words.
-/
import Derived.Test.YtppdholccpgcpaaGreatWp
import Derived.Test.YtppdholccpgcpaaGreatGrB
import Derived.Test.YtppdholccpgcpaaGreatRl
import Derived.Test.YtppdholccpgcpaaGreatSgR
import Derived.Test.YtppdholccpgcpaaGreatSl
import Derived.Test.YtppdholccpgcpaaGreatStore
import Derived.Test.YtppdholccpgcpaaGreatTri
import Derived.Test.YtppdholccpgcpaaGreatMatF
import Derived.Test.YtppdholccpgcpaaGreatPkI
namespace Go.Proofs.YtppdholccpgcpaaGreat
open Go.ChangeShapes Go.WideShapes Go.ChangeAt Go.RowKit
set_option linter.unusedVariables false
set_option linter.unusedSimpArgs false
set_option maxRecDepth 4000
theorem a3_agg (w : World) : (isAgg 80).run Tryz.prog w = .ok true w := by simp [isAgg, run_underlying Tryz.underlying80]
theorem a3_size : (Tryz.prog.info? 80).map (·.size) = some 18 := by kernel_rfl
def MadeP3 (B : Nat) (D : List (R3 × R3)) (w : World) (e : Ending) (w' : World) : Prop :=
  ∃ (g0 g1 g2 : PV), e = .returned (.agg (p18 g0 g1 g2)) ∧ dat [g0, g1, g2] = D ∧ (∀ p, p ∈ [g0, g1, g2] → CapP p) ∧ Owns B w'.heap.size w' (lrow [g0, g1, g2]) ∧ Aparts (lrow [g0, g1, g2]) ∧ Below w.heap.size w w'
def gjk (p q r : PV) : Nat → PV × PV
  | 0 => (q, r)
  | 1 => (r, p)
  | _ => (p, q)
def gU (p q r : PV) (j : Nat) : Option Rat := tX (gjk p q r j).1 (gjk p q r j).2 (invO (aV p q r))
def gV (p q r : PV) (j : Nat) : Option Rat := tY (gjk p q r j).1 (gjk p q r j).2 (invO (aV p q r))
def gD (p q r : PV) : List (R3 × R3) := [(ofO (gU p q r 0), ofO (gV p q r 0)), (ofO (gU p q r 1), ofO (gV p q r 1)), (ofO (gU p q r 2), ofO (gV p q r 2))]
theorem gU_fit (p q r : PV) (j : Nat) : FitO (gU p q r j) := tX_fit _ _ _
theorem gV_fit (p q r : PV) (j : Nat) : FitO (gV p q r j) := tY_fit _ _ _
theorem three_take (U V : Nat → R3) {j : Nat} (h : j < 3) : [(U 0, V 0), (U 1, V 1), (U 2, V 2)].take (j + 1) = [(U 0, V 0), (U 1, V 1), (U 2, V 2)].take j ++ [(U j, V j)] := by
  have : j = 0 ∨ j = 1 ∨ j = 2 := by omega
  rcases this with rfl | rfl | rfl <;> rfl
theorem three_pv {M : List PV} (h : M.length = 3) : ∃ a b c, M = [a, b, c] := by
  match M, h with
  | [a, b, c], _ => exact ⟨a, b, c, rfl⟩
end Go.Proofs.YtppdholccpgcpaaGreat
namespace Go.Proofs.YtppdholccpgcpaaGreat
open Go.ChangeShapes Go.WideShapes Go.ChangeAt Go.RowKit
set_option linter.unusedVariables false
set_option linter.unusedSimpArgs false
set_option maxRecDepth 4000
theorem grown_rds {W0 W : World} {rr : Nat} {rs : List (Option Addr × List Value)} (hK : W0.grownBy W (some rr)) (h : Rds W0 rs) (ho : OffG rr rs) : Rds W rs := fun r hr => by
  rcases h r hr with h1 | ⟨b, off, ha, hs, hc⟩
  · exact .inl h1
  · by_cases h0 : r.2.length = 0
    · exact .inl (List.eq_nil_of_length_eq_zero h0)
    have hb : b ≠ rr := fun e => ho r hr (by unfold rowOf; rw [if_neg h0, ha, e]; rfl)
    have hk : W.heap[b]? = W0.heap[b]? := hK.block b hs (fun e => hb (by injection e))
    refine .inr ⟨b, off, ha, Nat.lt_of_lt_of_le hs hK.size, fun j hj => ?_⟩
    rw [World.cell?_of_block (w := W0) (a := ⟨b, off + j, none⟩) hk]; exact hc j hj
end Go.Proofs.YtppdholccpgcpaaGreat
namespace Go.Proofs.YtppdholccpgcpaaGreat
open Go.ChangeShapes Go.WideShapes Go.ChangeAt Go.RowKit
set_option linter.unusedVariables false
set_option linter.unusedSimpArgs false
set_option maxRecDepth 4000
def areaQ (L : List PV) : Option Rat := binQ mulQ (aT L) (ofQ 1 2)
def massF (L : List PV) (i j : Nat) : Option Rat := binQ mulQ (areaQ L) (ofQ 1 (if i = j then 6 else 12))
def massL (L : List PV) : List SV := fullM (massF L) 3 3
def gAt (G : List PV) (i : Nat) : PV := (G[i]?).getD ⟨noR, noR, noA, noA⟩
def innE (p q : PV) : Option Rat := binQ addQ (binQ mulQ (valx p.x) (valx q.x)) (binQ mulQ (valx p.y) (valx q.y))
def stiffF (L : List PV) (i j : Nat) : Option Rat := binQ mulQ (areaQ L) (innE (gAt (gradL L) i) (gAt (gradL L) j))
def stiffL (L : List PV) : List SV := fullM (stiffF L) (gradL L).length (gradL L).length
theorem gradL_len3 (L : List PV) : (gradL L).length = 0 ∨ (gradL L).length = 3 := by
  unfold gradL gradV gl3
  split
  · exact .inr rfl
  · exact .inl rfl
end Go.Proofs.YtppdholccpgcpaaGreat
