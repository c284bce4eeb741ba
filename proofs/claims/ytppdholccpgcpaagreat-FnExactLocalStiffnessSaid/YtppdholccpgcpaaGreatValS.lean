/-
  The sum of the products of two lists' elements: words for both.
-/
import Derived.Test.YtppdholccpgcpaaGreatSlH
import Derived.Test.YtppdholccpgcpaaGreatPkI
import Derived.Test.YtppdholccpgcpaaGreatWg
import Derived.Test.YtppdholccpgcpaaGreatPtI
import Derived.Test.YtppdholccpgcpaaGreatWr
import Derived.Test.YtppdholccpgcpaaGreatPtK
import Derived.Test.YtppdholccpgcpaaGreatPkH
import Derived.Test.YtppdholccpgcpaaGreatPkF
import Derived.Test.YtppdholccpgcpaaGreatWp
import Derived.Test.YtppdholccpgcpaaGreatPkE
namespace Go.Proofs.YtppdholccpgcpaaGreat
open Go.ChangeShapes Go.WideShapes Go.ChangeAt Go.RowKit
set_option linter.unusedVariables false
set_option linter.unusedSimpArgs false
set_option maxRecDepth 4000
theorem binadd_fit (x y : Option Rat) : FitO (binQ addQ x y) := FitO.bin (fun r s t h => cutQ_fit h) x y
theorem binmul_fit (x y : Option Rat) : FitO (binQ mulQ x y) := FitO.bin (fun r s t h => cutQ_fit h) x y
end Go.Proofs.YtppdholccpgcpaaGreat
namespace Go.Proofs.YtppdholccpgcpaaGreat
open Go.ChangeShapes Go.WideShapes Go.ChangeAt Go.RowKit
set_option linter.unusedVariables false
set_option linter.unusedSimpArgs false
set_option maxRecDepth 4000
attribute [local go_sem ↓] Go.wp_at_zero Go.wp_at_succ
theorem sign_r (x : Option Rat) (a : Ad) (w : World) (hx : FitO x) (h : Rds w (rows (ofO x) a)) :
    Calls Tryz.prog 72 #[.agg (r3 (ofO x) a)] w (fun e w' => e = .returned (.int .i64 (sgnO x)) ∧ Below w.heap.size w w') := by
  cases x with
  | none => exact sign_any 0 a.A a.D 0 0 a.c a.d w ln_zero (by omega) (by rw [show (0 : Int).natAbs = 0 from rfl, nd_zero]; exact .inl rfl)
  | some r =>
    have hl := hx.len
    exact sign_any r.num a.A a.D _ _ a.c a.d w (nd_length _).symm (Nat.le_trans hl.1 (by omega)) (rows_rd h).1
def invO : Option Rat → Option Rat
  | none => none
  | some r => invQ r
theorem invO_fit {x : Option Rat} (h : FitO x) : FitO (invO x) := by
  cases x with
  | none => exact fitO_none
  | some r => exact invQ_fit (h r rfl)
theorem mul_invO (x y : Option Rat) : binQ mulQ x (invO y) = binQ quoQ x y := by
  cases y with
  | none => cases x <;> rfl
  | some s =>
    cases x with
    | none => show binQ mulQ none (invQ s) = none; cases invQ s <;> rfl
    | some r =>
      show binQ mulQ (some r) (invQ s) = quoQ r s
      rw [← mulO_inv]
      cases invQ s <;> rfl
theorem inverse_r (y : Option Rat) (b : Ad) (w : World) (hy : FitO y) (h : Rds w (rows (ofO y) b)) :
    Calls Tryz.prog 133 #[.agg (r3 (ofO y) b)] w (MadeQ w.heap.size (ofO (invO y)) w) := by
  cases y with
  | none => exact (inverse_no 0 b.A b.D 0 0 b.c b.d w rfl ln_zero (.inl (by show vi (nd 0) = []; rw [nd_zero]; rfl))).mono fun e w' k => MadeR.toQ (x := noR) k
  | some s => exact (inverse_q s b.A b.D _ _ b.c b.d w (hy s rfl) (nd_length _).symm (nd_length _).symm (rows_rd h).1 (rows_rd h).2).mono fun e w' k => MadeR.toQ (x := ofO (invQ s)) k
end Go.Proofs.YtppdholccpgcpaaGreat
namespace Go.Proofs.YtppdholccpgcpaaGreat
open Go.ChangeShapes Go.WideShapes Go.ChangeAt Go.RowKit
set_option linter.unusedVariables false
set_option linter.unusedSimpArgs false
set_option maxRecDepth 4000
attribute [local go_sem ↓] Go.wp_at_zero Go.wp_at_succ
set_option maxHeartbeats 1000000 in
theorem spec_valid (L : List RV) (A : Option Addr) (c : Nat) (w : World) (hn : L.length ≤ 9223372036854775807) (hL : ∀ p, p ∈ L → LenQ p) (hA : RdS w A (flatQ L)) (hR : Rds w (lrowQ L)) :
    Calls Tryz.prog 171 #[.slice A L.length c] w (fun e w' => e = .returned (.bool (validB L)) ∧ Below w.heap.size w w') := by
  have RA : Hid (∀ W, Below w.heap.size w W → RdS W A (flatQ L) ∧ Rds W (lrowQ L)) := Lib.hid (fun W hb => ⟨hA.below hb, hR.below hb⟩)
  obtain ⟨n, hnn⟩ : ∃ n, n = L.length := ⟨_, rfl⟩
  rw [← hnn] at hn ⊢
  have HN := Lib.hid hnn
  have HLL := Lib.hid hL
  clear hnn hA hR hL
  go_enter Tryz.func171, Tryz.ntmps171
  go_wp2
  go_loopw [7] (fun k w' => ∃ j : Nat, j ≤ n ∧ k = .int .i64 (j : Int) ∧ validB (L.take j) = true ∧ Below w.heap.size w w') (fun k _ => n - (intOf k).toNat)
  case atStart => exact ⟨0, Nat.zero_le _, rfl, rfl, Below.refl _ _⟩
  case round =>
    obtain ⟨j, hj, rfl, hv, kb⟩ := hrel
    by_cases hlt : j < n
    · obtain ⟨p, hp⟩ := getQ (L := L) (i := j) (by rw [← HN.out]; exact hlt)
      obtain ⟨g, o, rfl, _, c0, c1, c2⟩ := (RA.out _ kb).1.three hp
      have lp := HLL.out p (List.mem_of_getElem? hp)
      have HV := Lib.hid (fun W h => show Calls Tryz.prog 161 #[.agg (r3 p.x p.a)] W (fun e w' => e = .returned (.bool (okx p.x)) ∧ Below W.heap.size W w') from spec_rok p.x.p p.x.l p.x.m p.a.A p.a.D _ p.a.c _ p.a.d W rfl rfl lp.1 lp.2 (rows_rd h).1 (rows_rd h).2)
      have HT : Hid (validB (L.take (j + 1)) = okx p.x) := Lib.hid (by
        have hv' := hv
        unfold validB at hv' ⊢
        rw [take_succQ hp, List.all_append, hv']; simp)
      have HF : Hid (okx p.x = false → validB L = false) := Lib.hid (fun h => by
        cases hx : validB L with
        | false => rfl
        | true => rw [validB_at hx hp] at h; cases h)
      have HR := Lib.hid ((RA.out _ kb).2.atQ hp)
      generalize okx p.x = b at HV HT HF
      have hi0 : (0 : Int) ≤ (j : Int) := by omega
      have hi1 : (j : Int) < (n : Int) := by omega
      have P_e := heap_alloc_new wr (.cells (r3 p.x p.a) 29)
      have hb := ba1 wr (.cells (r3 p.x p.a) 29)
      have k2 := bt kb hb
      have hr2 := HR.out.below hb
      clear hp hv lp kb hb
      have e0 := rblk_cell P_e 0
      have e1 := rblk_cell P_e 1
      have e2 := rblk_cell P_e 2
      go_wp2_with fail
      clear c0 c1 c2 e0 e1 e2
      refine (HV.out _ hr2).mono ?_
      rintro e w2 ⟨rfl, hb⟩
      have k3 := bt k2 hb
      clear hb k2
      cases b with
      | false =>
        go_wp2
        go_ret
        exact ⟨ret_bool' (by first | exact (HF.out rfl).symm | exact (HF.out trivial).symm), k3⟩
      | true =>
        go_wp2
        go_roundw
        case rel => exact ⟨j + 1, hlt, by go_num, HT.out, k3⟩
        case measure => simp [intOf]; omega
    · obtain rfl : j = n := by omega
      have HT : Hid (validB L = true) := Lib.hid (by rw [HN.out, List.take_length] at hv; exact hv)
      clear hv
      go_wp2
      go_ret
      exact ⟨ret_bool' HT.out.symm, kb⟩
end Go.Proofs.YtppdholccpgcpaaGreat
