/-
  The program's LocalMass and LocalStiffness.
-/
import Derived.Test.YtppdholccpgcpaaGreatShM
import Derived.Test.YtppdholccpgcpaaGreatRl
import Derived.Test.YtppdholccpgcpaaGreatPkF
import Derived.Test.YtppdholccpgcpaaGreatStore
import Derived.Test.YtppdholccpgcpaaGreatWg
import Derived.Test.YtppdholccpgcpaaGreatTriC
import Derived.Test.YtppdholccpgcpaaGreatLawP
import Derived.Test.YtppdholccpgcpaaGreatLmM
import Derived.Test.YtppdholccpgcpaaGreatTriI
import Derived.Test.YtppdholccpgcpaaGreatGrM
import Derived.Test.YtppdholccpgcpaaGreatLgM
import Derived.Test.YtppdholccpgcpaaGreatGrS
import Derived.Test.YtppdholccpgcpaaGreatLgI
import Derived.Test.YtppdholccpgcpaaGreatElM
import Derived.Test.YtppdholccpgcpaaGreatPkI
import Derived.Test.YtppdholccpgcpaaGreatItM
import Derived.Test.YtppdholccpgcpaaGreatInV
namespace Go.Proofs.YtppdholccpgcpaaGreat
open Go.ChangeShapes Go.WideShapes Go.ChangeAt Go.RowKit
set_option linter.unusedVariables false
set_option linter.unusedSimpArgs false
set_option maxRecDepth 4000
attribute [local go_sem ↓] Go.wp_at_zero Go.wp_at_succ
theorem mass_same (L : List PV) : massF L = mF (tri1 L) (tri2 L) (tri3 L) := by
  funext i j
  unfold massF areaQ mF aHalf aT
  rfl
theorem okF_no {F : Nat → Nat → Option Rat} {i : Nat} (hi : i < 3) (h : F i i = none) : okF F 3 3 = false := by
  cases hk : okF F 3 3 with
  | false => rfl
  | true =>
    unfold okF at hk
    have h1 := List.all_eq_true.1 hk i (List.mem_range.2 hi)
    have h2 := List.all_eq_true.1 h1 i (List.mem_range.2 hi)
    rw [h] at h2; cases h2
end Go.Proofs.YtppdholccpgcpaaGreat
namespace Go.Proofs.YtppdholccpgcpaaGreat
open Go.ChangeShapes Go.WideShapes Go.ChangeAt Go.RowKit
set_option linter.unusedVariables false
set_option linter.unusedSimpArgs false
set_option maxRecDepth 4000
theorem eq_any (x : R3) (h1 : x.l.length ≤ 24) (h2 : x.m.length ≤ 24) (a b : Ad) (W : World) (h : Rds W (rows x a)) (h' : Rds W (rows x b)) :
    Calls Tryz.prog 20 #[.agg (r3 x a), .agg (r3 x b)] W (fun e w' => e = .returned (.bool true) ∧ Below W.heap.size W w') := by
  have k := impl_req3 x.p x.p x.l x.m x.l x.m a.A a.D b.A b.D _ _ _ _ a.c a.d b.c b.d W rfl rfl rfl rfl (by omega) (by omega) (by omega) (by omega) (rows_rd h).1 (rows_rd h).2 (rows_rd h').1 (rows_rd h').2
  rw [decide_eq_true rfl, decide_eq_true rfl, decide_eq_true rfl] at k
  exact k
theorem len3' {p q r : PV} (h1 : LenP p) (h2 : LenP q) (h3 : LenP r) : ∀ x, x ∈ [p, q, r] → LenP x := fun x hx => by
  simp only [List.mem_cons, List.not_mem_nil, or_false] at hx
  rcases hx with rfl | rfl | rfl <;> assumption
end Go.Proofs.YtppdholccpgcpaaGreat
namespace Go.Proofs.YtppdholccpgcpaaGreat
open Go.ChangeShapes Go.WideShapes Go.ChangeAt Go.RowKit
set_option linter.unusedVariables false
set_option linter.unusedSimpArgs false
set_option maxRecDepth 4000
attribute [local go_sem ↓] Go.wp_at_zero Go.wp_at_succ
set_option maxHeartbeats 4000000 in
theorem impl_integralOf (L : List PV) (A : Option Addr) (c : Nat) (U : List RV) (D : Option Addr) (d : Nat) (w : World) (hn : L.length ≤ 9223372036854775807) (hL : ∀ p, p ∈ L → LenP p) (hA : RdS w A (flat L)) (hR : Rds w (lrow L))
    (hU3 : U.length = 3) (hL' : ∀ p, p ∈ U → LenQ p) (hvv : validB U = true) (hA' : RdS w D (flatQ U)) (hR' : Rds w (lrowQ U)) :
    Calls Tryz.prog 32 #[.slice A L.length c, .slice D 3 d] w (MadeQ w.heap.size (ofO (intO (aHalf (tri1 L) (tri2 L) (tri3 L)) U)) w) := by
  have HT := Lib.hid (fun W (hB : Below w.heap.size w W) => show Calls Tryz.prog 63 #[.slice A L.length c] W (fun e w' => e = .returned (.agg (p18 (tri1 L) (tri2 L) (tri3 L))) ∧ Below W.heap.size W w') from tri_any L A c W hn hL (hA.below hB) (hR.below hB))
  have HM := Lib.hid (fun W (hB : Below w.heap.size w W) => integral_m (tri1 L) (tri2 L) (tri3 L) U D d W (tri_ok (hR.below hB)) hU3 hL' hvv (hA'.below hB) (hR'.below hB))
  have HI := Lib.hid (fun W (hB : Below w.heap.size w W) => show Calls Tryz.prog 93 #[.slice D 3 d] W (fun e w' => e = .returned (.bool true) ∧ Below W.heap.size W w') from by
    have K := isLocal U D d W (by omega) hL' (hA'.below hB) (hR'.below hB)
    rw [hU3, hvv] at K; exact K)
  generalize ofO (intO (aHalf (tri1 L) (tri2 L) (tri3 L)) U) = X at HM ⊢
  generalize tri1 L = p at HT HM
  generalize tri2 L = q at HT HM
  generalize tri3 L = r at HT HM
  generalize L.length = n at HT ⊢
  unfold MadeQ at HM
  clear hA hR hL hn hU3 hL' hvv hA' hR'
  have P_o := heap_alloc_new w (.cells z3 29)
  have kb := ba1 w (.cells z3 29)
  go_enter Tryz.func32, Tryz.ntmps32
  go_wp2_with fail
  generalize w.alloc (.cells z3 29) = W1 at P_o kb ⊢
  refine (HI.out _ kb).mono ?_
  rintro e W2 ⟨rfl, hb⟩
  replace P_o := rblk_below P_o hb
  replace kb := bt kb hb
  clear hb
  go_wp2_with fail
  refine (HT.out _ kb).mono ?_
  rintro e W3 ⟨rfl, hb⟩
  replace P_o := rblk_below P_o hb
  replace kb := bt kb hb
  clear hb
  go_wp2_with fail
  have hz := rblk_lt P_o
  refine (HM.out _ kb).mono ?_
  rintro e W4 ⟨ax, rfl, hcx, hcy, ol, hapl, hb⟩
  replace P_o := rblk_below P_o hb
  replace kb := bt kb hb
  clear hb
  have o0 := rblk_cell P_o 0
  have f0 := rblk_free P_o 0
  have o1 := rblk_cell P_o 1
  have f1 := rblk_free P_o 1
  have o2 := rblk_cell P_o 2
  have f2 := rblk_free P_o 2
  go_wp2
  exact bodyPost_ret (v := .agg (r3 X ax)) (by simp [results, Tryz.results32, go_sem, o0, o1, o2]) rfl ⟨ax, rfl, hcx, hcy, owns_end3 ol (.inl hz) (Nat.le_of_lt hz) (Nat.le_refl _) _ _ _, hapl, below_put3 kb (Nat.le_refl _) _ _ _⟩
end Go.Proofs.YtppdholccpgcpaaGreat
