/-
  A matrix times a vector: words for both.
-/
import Derived.Test.YtennekieiioilaaGreatIsM
import Derived.Test.YtennekieiioilaaGreatEntW
import Derived.Test.YtennekieiioilaaGreatAppQ
import Derived.Test.YtennekieiioilaaGreatPkE
import Derived.Test.YtennekieiioilaaGreatPkI
namespace Go.Proofs.YtennekieiioilaaGreat
open Go.ChangeShapes Go.WideShapes Go.ChangeAt Go.RowKit
open Go.ChangeMaps (open_string shut_string)
set_option linter.unusedVariables false
set_option linter.unusedSimpArgs false
set_option maxRecDepth 4000

/-- The matrix and the vector are valid and of one size. -/
def fitX (R : List MR) (L : List RV) : Bool := isMx R && (decide (L.length = R.length) && validB L)
attribute [local go_sem ↓] Go.wp_at_zero Go.wp_at_succ
set_option maxHeartbeats 4000000 in
theorem spec_fits (R : List MR) (A : Option Addr) (c : Nat) (L : List RV) (D : Option Addr) (d : Nat) (w : World) (hn : R.length ≤ 9223372036854775807) (hL : ∀ p, p ∈ R → LenX p) (hA : RdS w A (flatX R)) (hR : Rds w (lrowX R)) (hn' : L.length ≤ 9223372036854775807) (hL' : ∀ p, p ∈ L → LenQ p) (hA' : RdS w D (flatQ L)) (hR' : Rds w (lrowQ L)) :
    Calls Tryz.prog 41 #[.agg #[.slice A R.length c], .slice D L.length d] w (fun e w' => e = .returned (.bool (fitX R L)) ∧ Below w.heap.size w w') := by
  have HIS : Hid (∀ W, Below w.heap.size w W → Calls Tryz.prog 25 #[.agg #[.slice A R.length c]] W (fun e w' => e = .returned (.bool (isMx R)) ∧ Below W.heap.size W w')) := Lib.hid (fun W hb => spec_isMatrix R A c W hn hL (hA.below hb) (hR.below hb))
  have HV : Hid (∀ W, Below w.heap.size w W → Calls Tryz.prog 50 #[.slice D L.length d] W (fun e w' => e = .returned (.bool (validB L)) ∧ Below W.heap.size W w')) := Lib.hid (fun W hb => spec_valid L D d W hn' hL' (hA'.below hb) (hR'.below hb))
  obtain ⟨r, hr⟩ : ∃ r, r = fitX R L := ⟨_, rfl⟩
  rw [← hr]
  unfold fitX at hr
  generalize isMx R = mx at HIS hr
  generalize validB L = vl at HV hr
  generalize R.length = n at *
  generalize L.length = m at *
  clear hA hR hA' hR' hL hL'
  have P_a := heap_alloc_new w (.cells #[.slice A n c] 34)
  have kb := ba1 w (.cells #[.slice A n c] 34)
  have a0 := rblk_cell P_a 0
  cases mx
  case false =>
    rw [Bool.false_and] at hr
    subst hr
    clear HV
    go_enter Tryz.func41, Tryz.ntmps41
    go_wp2_with fail
    clear a0
    generalize w.alloc (.cells #[.slice A n c] 34) = W1 at kb P_a ⊢
    refine (HIS.out _ kb).mono ?_
    rintro e w2 ⟨rfl, hb⟩
    replace P_a := rblk_below P_a hb
    replace kb := bt kb hb
    clear hb
    have a0 := rblk_cell P_a 0
    go_wp2
    go_ret
    exact ⟨rfl, kb⟩
  rw [Bool.true_and] at hr
  by_cases hmn : m = n
  case neg =>
    rw [decide_eq_false hmn, Bool.false_and] at hr
    subst hr
    have q : ((m : Int) == (n : Int)) = false := by rw [beq_eq_false_iff_ne]; omega
    clear HV hmn
    go_enter Tryz.func41, Tryz.ntmps41
    go_wp2_with fail
    clear a0
    generalize w.alloc (.cells #[.slice A n c] 34) = W1 at kb P_a ⊢
    refine (HIS.out _ kb).mono ?_
    rintro e w2 ⟨rfl, hb⟩
    replace P_a := rblk_below P_a hb
    replace kb := bt kb hb
    clear hb
    have a0 := rblk_cell P_a 0
    go_wp2
    go_ret
    exact ⟨rfl, kb⟩
  rw [decide_eq_true hmn, Bool.true_and] at hr
  subst hr
  have q : ((m : Int) == (n : Int)) = true := by rw [hmn]; simp
  clear hmn
  go_enter Tryz.func41, Tryz.ntmps41
  go_wp2_with fail
  clear a0
  generalize w.alloc (.cells #[.slice A n c] 34) = W1 at kb P_a ⊢
  refine (HIS.out _ kb).mono ?_
  rintro e w2 ⟨rfl, hb⟩
  replace P_a := rblk_below P_a hb
  replace kb := bt kb hb
  clear hb
  have a0 := rblk_cell P_a 0
  go_wp2_with fail
  clear a0
  refine (HV.out _ kb).mono ?_
  rintro e w2 ⟨rfl, hb⟩
  replace kb := bt kb hb
  go_wp2
  go_ret
  exact ⟨rfl, kb⟩
end Go.Proofs.YtennekieiioilaaGreat
namespace Go.Proofs.YtennekieiioilaaGreat
open Go.ChangeShapes Go.WideShapes Go.ChangeAt Go.RowKit
open Go.ChangeMaps (open_string shut_string)
set_option linter.unusedVariables false
set_option linter.unusedSimpArgs false
set_option maxRecDepth 4000
/-- The sum so far. -/
def accX (o : Option Rat) (l : List (R3 × R3)) : Option Rat := l.foldl (fun o p => binQ addQ o (binQ mulQ (valx p.1) (valx p.2))) o
theorem accX_app (o : Option Rat) (l : List (R3 × R3)) (x : R3 × R3) : accX o (l ++ [x]) = binQ addQ (accX o l) (binQ mulQ (valx x.1) (valx x.2)) := by simp [accX, List.foldl_append]
theorem addX_fit (x y : Option Rat) : FitO (binQ addQ x y) := FitO.bin (fun r s t h => cutQ_fit h) x y
theorem mulX_fit (x y : Option Rat) : FitO (binQ mulQ x y) := FitO.bin (fun r s t h => cutQ_fit h) x y
theorem accX_fit {o : Option Rat} (h : FitO o) (l : List (R3 × R3)) : FitO (accX o l) := by
  induction l generalizing o with
  | nil => exact h
  | cons x l ih => exact ih (addX_fit _ _)
/-- A row's pairs of factors. -/
def rowPr (p : MR) (U : List RV) : List (R3 × R3) := (List.range p.cs.length).map fun k => (((datQ p.V)[k]?).getD noR, ((datQ U)[((p.cs[k]?).getD 0).toNat]?).getD noR)
def rowSum (p : MR) (U : List RV) : Option Rat := accX (some 0) (rowPr p U)
def sumL (R : List MR) (U : List RV) : List RV := R.map fun p => ⟨ofO (rowSum p U), ⟨none, 0, none, 0⟩⟩
theorem rowPr_step {p : MR} {U : List RV} {j y : Nat} {v u : RV} (hz : p.cs[j]? = some (y : Int)) (hv : p.V[j]? = some v) (hu : U[y]? = some u) : (rowPr p U).take (j + 1) = (rowPr p U).take j ++ [(v.x, u.x)] := by
  have hx : (datQ p.V)[j]? = some v.x := by unfold datQ; rw [List.getElem?_map, hv]; rfl
  have hy : (datQ U)[y]? = some u.x := by unfold datQ; rw [List.getElem?_map, hu]; rfl
  have hlt : j < p.cs.length := by
    rcases Nat.lt_or_ge j p.cs.length with h | h
    · exact h
    · rw [List.getElem?_eq_none h] at hz; cases hz
  have h : (rowPr p U)[j]? = some (v.x, u.x) := by
    unfold rowPr
    rw [List.getElem?_map, List.getElem?_range hlt]
    simp [hz, hx, hy]
  rw [List.take_add_one, h]; rfl
theorem rowPr_all {p : MR} {U : List RV} {m : Nat} (hm : m = p.cs.length) : (rowPr p U).take m = rowPr p U := by
  apply List.take_of_length_le
  unfold rowPr
  rw [List.length_map, List.length_range, hm]; exact Nat.le_refl _
theorem sumL_step {R : List MR} {U M : List RV} {i : Nat} {p : MR} {q : RV} (hp : R[i]? = some p) (h : datQ M = datQ (sumL (R.take i) U)) (hq : q.x = ofO (rowSum p U)) : datQ (M ++ [q]) = datQ (sumL (R.take (i + 1)) U) := by
  rw [take_succX hp]
  unfold sumL at h ⊢
  unfold datQ at h ⊢
  rw [List.map_append, List.map_append, List.map_append, h]
  show _ ++ [q.x] = _ ++ [ofO (rowSum p U)]
  rw [hq]
theorem sumL_all {R : List MR} {U : List RV} {n : Nat} (hn : n = R.length) : sumL (R.take n) U = sumL R U := by
  rw [List.take_of_length_le (by omega)]
theorem rowSum_dat {p q : MR} {U T : List RV} (h : q.cs = p.cs) (h' : datQ q.V = datQ p.V) (h2 : datQ T = datQ U) : rowSum q T = rowSum p U := by
  unfold rowSum rowPr
  rw [h, h', h2]
/-- What validity says. -/
theorem fitX_get {R : List MR} {U : List RV} (h : fitX R U = true) : R.length ≤ 40 ∧ U.length = R.length ∧ validB U = true ∧ ∀ (i : Nat) (p : MR), R[i]? = some p → p.cs.length = p.V.length ∧ validB p.V = true ∧ ∀ (j : Nat) (z : Int), p.cs[j]? = some z → ∃ y : Nat, z = (y : Int) ∧ y < R.length := by
  unfold fitX isMx at h
  simp only [Bool.and_eq_true, decide_eq_true_eq] at h
  refine ⟨h.1.1, h.2.1, h.2.2, fun i p hp => ?_⟩
  have hr := allB_at h.1.2 hp
  unfold rowB at hr
  simp only [Bool.and_eq_true, decide_eq_true_eq] at hr
  refine ⟨hr.1, hr.2.1, fun j z hz => ?_⟩
  have hlt : j < p.cs.length := by
    rcases Nat.lt_or_ge j p.cs.length with h | h
    · exact h
    · rw [List.getElem?_eq_none h] at hz; cases hz
  have he := elB_mem hr.2.2 hlt
  unfold elB at he
  rw [hz] at he
  simp only [Bool.and_eq_true, decide_eq_true_eq, Option.getD_some] at he
  exact ⟨z.toNat, by omega, by omega⟩
theorem specmul_x (x u : R3) (a c : Ad) (w : World) (hxl : x.l.length ≤ 9223372036854775807) (hxm : x.m.length ≤ 9223372036854775807) (hul : u.l.length ≤ 9223372036854775807) (hum : u.m.length ≤ 9223372036854775807) (h : Rds w (rows x a)) (h' : Rds w (rows u c)) :
    Calls Tryz.prog 65 #[.agg #[.bool x.p, .slice a.A x.l.length a.c, .slice a.D x.m.length a.d], .agg #[.bool u.p, .slice c.A u.l.length c.c, .slice c.D u.m.length c.d]] w (MadeQ w.heap.size (ofO (binQ mulQ (valx x) (valx u))) w) :=
  (spec_rmul x.p u.p x.l x.m u.l u.m a.A a.D c.A c.D x.l.length x.m.length u.l.length u.m.length a.c a.d c.c c.d w rfl rfl rfl rfl hxl hxm hul hum (rows_rd h).1 (rows_rd h).2 (rows_rd h').1 (rows_rd h').2).mono fun e w' k => MadeR.toQ (x := ofO (binQ mulQ (valx x) (valx u))) k
theorem specadd_x (x u : Option Rat) (a c : Ad) (w : World) (hx : FitO x) (hu : FitO u) (h : Rds w (rows (ofO x) a)) (h' : Rds w (rows (ofO u) c)) :
    Calls Tryz.prog 64 #[.agg #[.bool (ofO x).p, .slice a.A (ofO x).l.length a.c, .slice a.D (ofO x).m.length a.d], .agg #[.bool (ofO u).p, .slice c.A (ofO u).l.length c.c, .slice c.D (ofO u).m.length c.d]] w (MadeQ w.heap.size (ofO (binQ addQ x u)) w) := by
  have l1 := hx.len
  have l2 := hu.len
  have k := (spec_radd (ofO x).p (ofO u).p (ofO x).l (ofO x).m (ofO u).l (ofO u).m a.A a.D c.A c.D _ _ _ _ a.c a.d c.c c.d w rfl rfl rfl rfl (by omega) (by omega) (by omega) (by omega) (rows_rd h).1 (rows_rd h).2 (rows_rd h').1 (rows_rd h').2).mono fun e w' k => MadeR.toQ (x := ofO (binQ addQ (valx (ofO x)) (valx (ofO u)))) k
  rw [valx_ofO hx, valx_ofO hu] at k
  exact k
end Go.Proofs.YtennekieiioilaaGreat
