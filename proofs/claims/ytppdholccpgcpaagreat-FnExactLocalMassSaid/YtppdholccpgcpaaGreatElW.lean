/-
  The gradients of a triangle: words for both.
-/
import Derived.Test.YtppdholccpgcpaaGreatTriI
import Derived.Test.YtppdholccpgcpaaGreatTk
import Derived.Deep.MidRow
import Derived.Deep.RegionHeld3
import Derived.Test.YtppdholccpgcpaaGreatTriS
import Derived.Test.YtppdholccpgcpaaGreatLawP
import Derived.Test.YtppdholccpgcpaaGreatSlT
import Derived.Test.YtppdholccpgcpaaGreatValS
import Derived.Test.YtppdholccpgcpaaGreatLawXs
import Derived.Test.YtppdholccpgcpaaGreatRlE
import Derived.Test.YtppdholccpgcpaaGreatMatF
import Derived.Test.YtppdholccpgcpaaGreatPkI
namespace Go.Proofs.YtppdholccpgcpaaGreat
open Go.ChangeShapes Go.WideShapes Go.ChangeAt Go.RowKit
open Go.ChangeMaps (open_string shut_string)
set_option linter.unusedVariables false
set_option linter.unusedSimpArgs false
set_option maxRecDepth 4000
theorem wp_store_at {P : Program} {o : Oper} {a : Act} {w : World} {K : Act → World → Prop} {Q : Exit → Act → World → Prop} (ty : TypeId) (x y : Operand) (ho : o.op = .store ty x y)
    (g off : Nat) (cells : Array Value) (hx : a.eval x = .pointer (some ⟨g, off, none⟩)) (hy : a.eval y = .agg cells)
    (t : TypeId) (old : Array Value) (hg : w.heap[g]? = some (.cells old t (0, 0))) (hi : (P.info? ty).map (·.size) = some cells.size)
    (hold : off + cells.size ≤ old.size) (h1 : cells.all (·.oneCell') = true)
    (h : K (a.put o.dst undef) (w.setRow g (old.toList.take off ++ (cells.toList ++ old.toList.drop (off + cells.size))).toArray)) : o.wp P a w K Q := by
  unfold Oper.wp execOp
  simp only [ho, hx, hy, Instr.storeAt, Instr.sureAddr, Sem.run_bind, Sem.run_pure, Result.andThen_ok, run_storeVar_at w g off t ty old cells hg hi hold h1]
  exact h
theorem len_pos (o : Option Rat) : decide (0 < (ofO o).m.length) = o.isSome := by
  cases o with
  | none => rfl
  | some r => show decide (0 < (nd r.den).length) = true; rw [nd_length]; exact decide_eq_true (by have := ln_pos r.den_pos; omega)
end Go.Proofs.YtppdholccpgcpaaGreat
namespace Go.Proofs.YtppdholccpgcpaaGreat
open Go.ChangeShapes Go.WideShapes Go.ChangeAt Go.RowKit
open Go.ChangeMaps (open_string shut_string)
set_option linter.unusedVariables false
set_option linter.unusedSimpArgs false
set_option maxRecDepth 4000
def areaQ (L : List PV) : Option Rat := binQ mulQ (aT L) (ofQ 1 2)
def massF (L : List PV) (i j : Nat) : Option Rat := binQ mulQ (areaQ L) (ofQ 1 (if i = j then 6 else 12))
def massL (L : List PV) : List SV := fullM (massF L) 3 3
theorem areaQ_fit (L : List PV) : FitO (areaQ L) := binmul_fit _ _
theorem massF_fit (L : List PV) (i j : Nat) : FitO (massF L i j) := binmul_fit _ _
theorem areaQ_dat {L M : List PV} (h : dat M = dat L) : areaQ M = areaQ L := by unfold areaQ; rw [aT_dat h]
theorem massF_dat {L M : List PV} (h : dat M = dat L) : massF M = massF L := by funext i j; unfold massF; rw [areaQ_dat h]
theorem massL_dat {L M : List PV} (h : dat M = dat L) : massL M = massL L := by unfold massL; rw [massF_dat h]
theorem massL_size (L : List PV) : szm2 (massL L) ≤ 1048576 ∧ ((massL L).length ≤ 1048576 ∧ ∀ p, p ∈ (massL L) → ShortS p) := fullM_size (massF_fit L) 3 3 (Nat.le_refl _) (Nat.le_refl _)
theorem massL_no {L : List PV} (h : properB L = false) : massL L = [] := by
  have e : okF (massF L) 3 3 = false := by
    have e2 : massF L 0 0 = none := by unfold massF areaQ; rw [aT_no h]; rfl
    cases hk : okF (massF L) 3 3 with
    | false => rfl
    | true =>
      unfold okF at hk
      have h1 := List.all_eq_true.1 hk 0 (List.mem_range.2 (by omega))
      have h2 := List.all_eq_true.1 h1 0 (List.mem_range.2 (by omega))
      rw [e2] at h2; cases h2
  unfold massL fullM
  rw [if_neg (by rw [e]; intro h; cases h)]
end Go.Proofs.YtppdholccpgcpaaGreat
