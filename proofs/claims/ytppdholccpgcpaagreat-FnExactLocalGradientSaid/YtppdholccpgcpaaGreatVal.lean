/-
  An array of three points: words.
-/
import Derived.Test.YtppdholccpgcpaaGreatWp
import Derived.Test.YtppdholccpgcpaaGreatGrB
import Derived.Test.YtppdholccpgcpaaGreatTriC
import Derived.Test.YtppdholccpgcpaaGreatTriS
import Derived.Test.YtppdholccpgcpaaGreatPkH
import Derived.Test.YtppdholccpgcpaaGreatPkI
import Derived.Test.YtppdholccpgcpaaGreatLgW
import Derived.Test.YtppdholccpgcpaaGreatValS
namespace Go.Proofs.YtppdholccpgcpaaGreat
open Go.ChangeShapes Go.WideShapes Go.ChangeAt Go.RowKit
set_option linter.unusedVariables false
set_option linter.unusedSimpArgs false
set_option maxRecDepth 4000
theorem a3_agg (w : World) : (isAgg 80).run Tryz.prog w = .ok true w := by simp [isAgg, run_underlying Tryz.underlying80]
theorem a3_size : (Tryz.prog.info? 80).map (·.size) = some 18 := by kernel_rfl
def MadeP3 (B : Nat) (D : List (R3 × R3)) (w : World) (e : Ending) (w' : World) : Prop :=
  ∃ (g0 g1 g2 : PV), e = .returned (.agg (p18 g0 g1 g2)) ∧ dat [g0, g1, g2] = D ∧ (∀ p, p ∈ [g0, g1, g2] → CapP p) ∧ Owns B w'.heap.size w' (lrow [g0, g1, g2]) ∧ Aparts (lrow [g0, g1, g2]) ∧ Below w.heap.size w w'
def gjk (p q r : PV) : Nat → PV × PV
  | 0 => (q, r)
  | 1 => (r, p)
  | _ => (p, q)
def gU (p q r : PV) (j : Nat) : Option Rat := tX (gjk p q r j).1 (gjk p q r j).2 (invO (aV p q r))
def gV (p q r : PV) (j : Nat) : Option Rat := tY (gjk p q r j).1 (gjk p q r j).2 (invO (aV p q r))
def gD (p q r : PV) : List (R3 × R3) := [(ofO (gU p q r 0), ofO (gV p q r 0)), (ofO (gU p q r 1), ofO (gV p q r 1)), (ofO (gU p q r 2), ofO (gV p q r 2))]
theorem gU_fit (p q r : PV) (j : Nat) : FitO (gU p q r j) := tX_fit _ _ _
theorem gV_fit (p q r : PV) (j : Nat) : FitO (gV p q r j) := tY_fit _ _ _
theorem three_take (U V : Nat → R3) {j : Nat} (h : j < 3) : [(U 0, V 0), (U 1, V 1), (U 2, V 2)].take (j + 1) = [(U 0, V 0), (U 1, V 1), (U 2, V 2)].take j ++ [(U j, V j)] := by
  have : j = 0 ∨ j = 1 ∨ j = 2 := by omega
  rcases this with rfl | rfl | rfl <;> rfl
theorem three_pv {M : List PV} (h : M.length = 3) : ∃ a b c, M = [a, b, c] := by
  match M, h with
  | [a, b, c], _ => exact ⟨a, b, c, rfl⟩
end Go.Proofs.YtppdholccpgcpaaGreat
namespace Go.Proofs.YtppdholccpgcpaaGreat
open Go.ChangeShapes Go.WideShapes Go.ChangeAt Go.RowKit
set_option linter.unusedVariables false
set_option linter.unusedSimpArgs false
set_option maxRecDepth 4000
theorem quoO_fit (x y : Option Rat) : FitO (binQ quoQ x y) := FitO.bin (fun r s t h => by
  unfold quoQ at h
  split at h
  · cases h
  · exact cutQ_fit h) x y
theorem spec_div_r (x u : R3) (a c : Ad) (w : World) (hxl : x.l.length ≤ 9223372036854775807) (hxm : x.m.length ≤ 9223372036854775807) (hul : u.l.length ≤ 9223372036854775807) (hum : u.m.length ≤ 9223372036854775807) (kx : x.l.length ≤ a.c ∧ x.m.length ≤ a.d) (ku : u.l.length ≤ c.c ∧ u.m.length ≤ c.d) (h : Rds w (rows x a)) (h' : Rds w (rows u c)) :
    Calls Tryz.prog 101 #[.agg (r3 x a), .agg (r3 u c)] w (MadeQ w.heap.size (ofO (binQ quoQ (valx x) (valx u))) w) :=
  (spec_rdiv x.p u.p x.l x.m u.l u.m a.A a.D c.A c.D _ _ _ _ a.c a.d c.c c.d w rfl rfl rfl rfl hxl hxm hul hum kx.1 kx.2 ku.1 ku.2 (rows_rd h).1 (rows_rd h).2 (rows_rd h').1 (rows_rd h').2).mono fun e w' k => MadeR.toQ (x := ofO (binQ quoQ (valx x) (valx u))) k
end Go.Proofs.YtppdholccpgcpaaGreat
namespace Go.Proofs.YtppdholccpgcpaaGreat
open Go.ChangeShapes Go.WideShapes Go.ChangeAt Go.RowKit
set_option linter.unusedVariables false
set_option linter.unusedSimpArgs false
set_option maxRecDepth 4000
attribute [local go_sem ↓] Go.wp_at_zero Go.wp_at_succ
set_option maxHeartbeats 1000000 in
theorem spec_ok12 (L : List PV) (A : Option Addr) (c : Nat) (U : List RV) (D : Option Addr) (d : Nat) (w : World) (hn : L.length ≤ 9223372036854775807) (hL : ∀ p, p ∈ L → LenP p) (hC : ∀ p, p ∈ L → CapP p) (hA : RdS w A (flat L)) (hR : Rds w (lrow L))
    (hn' : U.length ≤ 9223372036854775807) (hL' : ∀ p, p ∈ U → LenQ p) (hA' : RdS w D (flatQ U)) (hR' : Rds w (lrowQ U)) :
    Calls Tryz.prog 108 #[.slice A L.length c, .slice D U.length d] w (fun e w' => e = .returned (.bool (ok12 L U)) ∧ Below w.heap.size w w') := by
  have HP : Hid (∀ W, Below w.heap.size w W → Calls Tryz.prog 99 #[.slice A L.length c] W (fun e w' => e = .returned (.bool (properB L)) ∧ Below W.heap.size W w')) := Lib.hid (fun W hb => spec_proper L A c W hn hL hC (hA.below hb) (hR.below hb))
  have HV : Hid (∀ W, Below w.heap.size w W → Calls Tryz.prog 171 #[.slice D U.length d] W (fun e w' => e = .returned (.bool (validB U)) ∧ Below W.heap.size W w')) := Lib.hid (fun W hb => spec_valid U D d W hn' hL' (hA'.below hb) (hR'.below hb))
  unfold ok12
  generalize properB L = b at HP ⊢
  generalize validB U = v at HV ⊢
  generalize L.length = n at HP ⊢
  clear hn hL hC hA hR hL' hA' hR'
  generalize U.length = m at HV hn' ⊢
  cases b with
  | false =>
    go_enter Tryz.func108, Tryz.ntmps108
    go_wp2_with fail
    refine (HP.out _ (Below.refl _ _)).mono ?_
    rintro e w2 ⟨rfl, hb⟩
    go_wp2
    go_ret
    exact ⟨rfl, hb⟩
  | true =>
    by_cases h3 : m = 3
    · subst h3
      have q : ((3 : Int) == 3) = true := rfl
      go_enter Tryz.func108, Tryz.ntmps108
      go_wp2_with fail
      refine (HP.out _ (Below.refl _ _)).mono ?_
      rintro e w2 ⟨rfl, hb⟩
      go_wp2_with fail
      refine (HV.out _ hb).mono ?_
      rintro e w3 ⟨rfl, hb2⟩
      go_wp2
      go_ret
      exact ⟨by simp, bt hb hb2⟩
    · have q : ((m : Int) == 3) = false := by rw [beq_eq_false_iff_ne]; omega
      go_enter Tryz.func108, Tryz.ntmps108
      go_wp2_with fail
      refine (HP.out _ (Below.refl _ _)).mono ?_
      rintro e w2 ⟨rfl, hb⟩
      go_wp2
      go_ret
      exact ⟨by simp [h3], hb⟩
end Go.Proofs.YtppdholccpgcpaaGreat
