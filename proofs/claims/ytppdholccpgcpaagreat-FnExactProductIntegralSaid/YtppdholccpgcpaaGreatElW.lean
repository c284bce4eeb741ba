/-
  The gradients of a triangle: words for both.
-/
import Derived.Test.YtppdholccpgcpaaGreatTriI
import Derived.Test.YtppdholccpgcpaaGreatTk
import Derived.Deep.MidRow
import Derived.Deep.RegionHeld3
import Derived.Test.YtppdholccpgcpaaGreatTriS
import Derived.Test.YtppdholccpgcpaaGreatSlT
import Derived.Test.YtppdholccpgcpaaGreatInS
import Derived.Test.YtppdholccpgcpaaGreatLawXs
import Derived.Test.YtppdholccpgcpaaGreatAppG
import Derived.Test.YtppdholccpgcpaaGreatMatF
import Derived.Test.YtppdholccpgcpaaGreatPkI
namespace Go.Proofs.YtppdholccpgcpaaGreat
open Go.ChangeShapes Go.WideShapes Go.ChangeAt Go.RowKit
open Go.ChangeMaps (open_string shut_string)
set_option linter.unusedVariables false
set_option linter.unusedSimpArgs false
set_option maxRecDepth 4000
theorem wp_store_at {P : Program} {o : Oper} {a : Act} {w : World} {K : Act → World → Prop} {Q : Exit → Act → World → Prop} (ty : TypeId) (x y : Operand) (ho : o.op = .store ty x y)
    (g off : Nat) (cells : Array Value) (hx : a.eval x = .pointer (some ⟨g, off, none⟩)) (hy : a.eval y = .agg cells)
    (t : TypeId) (old : Array Value) (hg : w.heap[g]? = some (.cells old t (0, 0))) (hi : (P.info? ty).map (·.size) = some cells.size)
    (hold : off + cells.size ≤ old.size) (h1 : cells.all (·.oneCell') = true)
    (h : K (a.put o.dst undef) (w.setRow g (old.toList.take off ++ (cells.toList ++ old.toList.drop (off + cells.size))).toArray)) : o.wp P a w K Q := by
  unfold Oper.wp execOp
  simp only [ho, hx, hy, Instr.storeAt, Instr.sureAddr, Sem.run_bind, Sem.run_pure, Result.andThen_ok, run_storeVar_at w g off t ty old cells hg hi hold h1]
  exact h
theorem mulO_comm (x y : Option Rat) : binQ mulQ x y = binQ mulQ y x := by
  cases x with
  | none => cases y <;> rfl
  | some r =>
    cases y with
    | none => rfl
    | some s => show mulQ r s = mulQ s r; unfold mulQ; rw [Rat.mul_comm]
end Go.Proofs.YtppdholccpgcpaaGreat
namespace Go.Proofs.YtppdholccpgcpaaGreat
open Go.ChangeShapes Go.WideShapes Go.ChangeAt Go.RowKit
open Go.ChangeMaps (open_string shut_string)
set_option linter.unusedVariables false
set_option linter.unusedSimpArgs false
set_option maxRecDepth 4000
def ok12 (L : List PV) (U : List RV) : Bool := properB L && (decide (U.length = 3) && validB U)
theorem grown_rds {W0 W : World} {rr : Nat} {rs : List (Option Addr × List Value)} (hK : W0.grownBy W (some rr)) (h : Rds W0 rs) (ho : OffG rr rs) : Rds W rs := fun r hr => by
  rcases h r hr with h1 | ⟨b, off, ha, hs, hc⟩
  · exact .inl h1
  · by_cases h0 : r.2.length = 0
    · exact .inl (List.eq_nil_of_length_eq_zero h0)
    have hb : b ≠ rr := fun e => ho r hr (by unfold rowOf; rw [if_neg h0, ha, e]; rfl)
    have hk : W.heap[b]? = W0.heap[b]? := hK.block b hs (fun e => hb (by injection e))
    refine .inr ⟨b, off, ha, Nat.lt_of_lt_of_le hs hK.size, fun j hj => ?_⟩
    rw [World.cell?_of_block (w := W0) (a := ⟨b, off + j, none⟩) hk]; exact hc j hj
end Go.Proofs.YtppdholccpgcpaaGreat
namespace Go.Proofs.YtppdholccpgcpaaGreat
open Go.ChangeShapes Go.WideShapes Go.ChangeAt Go.RowKit
open Go.ChangeMaps (open_string shut_string)
set_option linter.unusedVariables false
set_option linter.unusedSimpArgs false
set_option maxRecDepth 4000
def areaQ (L : List PV) : Option Rat := binQ mulQ (aT L) (ofQ 1 2)
def massF (L : List PV) (i j : Nat) : Option Rat := binQ mulQ (areaQ L) (ofQ 1 (if i = j then 6 else 12))
def massL (L : List PV) : List SV := fullM (massF L) 3 3
def valU (U : List RV) (i : Nat) : Option Rat := valx (((datQ U)[i]?).getD noR)
def accP (L : List PV) (U V : List RV) : Nat → Option Rat
  | 0 => some 0
  | t + 1 => binQ addQ (accP L U V t) (binQ mulQ (massF L (t / 3) (t % 3)) (binQ mulQ (valU U (t / 3)) (valU V (t % 3))))
def prodO (L : List PV) (U V : List RV) : Option Rat := if ok12 L U = true ∧ ok12 L V = true ∧ okF (massF L) 3 3 = true then accP L U V 9 else none
theorem areaQ_fit (L : List PV) : FitO (areaQ L) := binmul_fit _ _
theorem massF_fit (L : List PV) (i j : Nat) : FitO (massF L i j) := binmul_fit _ _
theorem accP_fit (L : List PV) (U V : List RV) (t : Nat) : FitO (accP L U V t) := by
  cases t with
  | zero => exact zeroQ_fit
  | succ t => exact binadd_fit _ _
theorem prodO_fit (L : List PV) (U V : List RV) : FitO (prodO L U V) := by
  unfold prodO
  split
  · exact accP_fit _ _ _ _
  · exact fitO_none
theorem areaQ_dat {L M : List PV} (h : dat M = dat L) : areaQ M = areaQ L := by unfold areaQ; rw [aT_dat h]
theorem massF_dat {L M : List PV} (h : dat M = dat L) : massF M = massF L := by funext i j; unfold massF; rw [areaQ_dat h]
theorem ok12_dat {L M : List PV} {U V : List RV} (h : dat M = dat L) (h' : datQ V = datQ U) : ok12 M V = ok12 L U := by unfold ok12; rw [properB_dat h, validB_dat h', datQ_len h']
theorem valU_dat {U V : List RV} (h : datQ V = datQ U) (i : Nat) : valU V i = valU U i := by unfold valU; rw [h]
theorem accP_dat {L M : List PV} {U U' V V' : List RV} (h : dat M = dat L) (h' : datQ U' = datQ U) (h'' : datQ V' = datQ V) (t : Nat) : accP M U' V' t = accP L U V t := by
  induction t with
  | zero => rfl
  | succ t ih =>
    show binQ addQ (accP M U' V' t) (binQ mulQ (massF M (t / 3) (t % 3)) (binQ mulQ (valU U' (t / 3)) (valU V' (t % 3)))) = _
    rw [ih, massF_dat h, valU_dat h', valU_dat h'']; rfl
theorem prodO_dat {L M : List PV} {U U' V V' : List RV} (h : dat M = dat L) (h' : datQ U' = datQ U) (h'' : datQ V' = datQ V) : prodO M U' V' = prodO L U V := by
  unfold prodO
  rw [ok12_dat h h', ok12_dat h h'', massF_dat h, accP_dat h h' h'']
theorem massL_no {L : List PV} (h : properB L = false) : massL L = [] := by
  have e : okF (massF L) 3 3 = false := by
    have e2 : massF L 0 0 = none := by unfold massF areaQ; rw [aT_no h]; rfl
    cases hk : okF (massF L) 3 3 with
    | false => rfl
    | true =>
      unfold okF at hk
      have h1 := List.all_eq_true.1 hk 0 (List.mem_range.2 (by omega))
      have h2 := List.all_eq_true.1 h1 0 (List.mem_range.2 (by omega))
      rw [e2] at h2; cases h2
  unfold massL fullM
  rw [if_neg (by rw [e]; intro h; cases h)]
theorem valU_get {U : List RV} {i : Nat} {p : RV} (h : U[i]? = some p) : valU U i = valx p.x := by
  unfold valU datQ
  rw [List.getElem?_map, h]; rfl
end Go.Proofs.YtppdholccpgcpaaGreat
