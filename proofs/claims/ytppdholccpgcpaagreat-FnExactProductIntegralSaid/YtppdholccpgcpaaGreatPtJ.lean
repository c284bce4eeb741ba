/-
  A list of valid fractions; a proper corner list with three values: the model's l11Valid and l12Ok.
-/
import Derived.Test.YtppdholccpgcpaaGreatMatF
import Derived.Test.YtppdholccpgcpaaGreatPkE
import Derived.Test.YtppdholccpgcpaaGreatPtI
import Derived.Test.YtppdholccpgcpaaGreatPkI
namespace Go.Proofs.YtppdholccpgcpaaGreat
open Go.ChangeShapes Go.WideShapes Go.ChangeAt Go.RowKit
open Go.ChangeMaps (open_string shut_string)
set_option linter.unusedVariables false
set_option linter.unusedSimpArgs false
set_option maxRecDepth 4000
attribute [local go_sem ↓] Go.wp_at_zero Go.wp_at_succ
set_option maxHeartbeats 1000000 in
theorem spec_valid (L : List RV) (A : Option Addr) (c : Nat) (w : World) (hn : L.length ≤ 9223372036854775807) (hL : ∀ p, p ∈ L → LenQ p) (hA : RdS w A (flatQ L)) (hR : Rds w (lrowQ L)) :
    Calls Tryz.prog 171 #[.slice A L.length c] w (fun e w' => e = .returned (.bool (validB L)) ∧ Below w.heap.size w w') := by
  have RA : Hid (∀ W, Below w.heap.size w W → RdS W A (flatQ L) ∧ Rds W (lrowQ L)) := Lib.hid (fun W hb => ⟨hA.below hb, hR.below hb⟩)
  obtain ⟨n, hnn⟩ : ∃ n, n = L.length := ⟨_, rfl⟩
  rw [← hnn] at hn ⊢
  have HN := Lib.hid hnn
  have HLL := Lib.hid hL
  clear hnn hA hR hL
  go_enter Tryz.func171, Tryz.ntmps171
  go_wp2
  go_loopw [7] (fun k w' => ∃ j : Nat, j ≤ n ∧ k = .int .i64 (j : Int) ∧ validB (L.take j) = true ∧ Below w.heap.size w w') (fun k _ => n - (intOf k).toNat)
  case atStart => exact ⟨0, Nat.zero_le _, rfl, rfl, Below.refl _ _⟩
  case round =>
    obtain ⟨j, hj, rfl, hv, kb⟩ := hrel
    by_cases hlt : j < n
    · obtain ⟨p, hp⟩ := getQ (L := L) (i := j) (by rw [← HN.out]; exact hlt)
      obtain ⟨g, o, rfl, _, c0, c1, c2⟩ := (RA.out _ kb).1.three hp
      have lp := HLL.out p (List.mem_of_getElem? hp)
      have HV := Lib.hid (fun W h => show Calls Tryz.prog 161 #[.agg #[.bool p.x.p, .slice p.a.A p.x.l.length p.a.c, .slice p.a.D p.x.m.length p.a.d]] W (fun e w' => e = .returned (.bool (okx p.x)) ∧ Below W.heap.size W w') from spec_rok p.x.p p.x.l p.x.m p.a.A p.a.D _ p.a.c _ p.a.d W rfl rfl lp.1 lp.2 (rows_rd h).1 (rows_rd h).2)
      have HT : Hid (validB (L.take (j + 1)) = okx p.x) := Lib.hid (by
        have hv' := hv
        unfold validB at hv' ⊢
        rw [take_succQ hp, List.all_append, hv']; simp)
      have HF : Hid (okx p.x = false → validB L = false) := Lib.hid (fun h => by
        cases hx : validB L with
        | false => rfl
        | true => rw [validB_at hx hp] at h; cases h)
      have HR := Lib.hid ((RA.out _ kb).2.atQ hp)
      generalize okx p.x = b at HV HT HF
      have hi0 : (0 : Int) ≤ (j : Int) := by omega
      have hi1 : (j : Int) < (n : Int) := by omega
      have P_e := heap_alloc_new wr (.cells #[.bool p.x.p, .slice p.a.A p.x.l.length p.a.c, .slice p.a.D p.x.m.length p.a.d] 29)
      have hb := ba1 wr (.cells #[.bool p.x.p, .slice p.a.A p.x.l.length p.a.c, .slice p.a.D p.x.m.length p.a.d] 29)
      have k2 := bt kb hb
      have hr2 := HR.out.below hb
      clear hp hv lp kb hb
      have e0 : (wr.alloc (.cells #[.bool p.x.p, .slice p.a.A p.x.l.length p.a.c, .slice p.a.D p.x.m.length p.a.d] 29)).cell? ⟨wr.heap.size, 0, none⟩ = some (.bool p.x.p) := rblk_cell P_e 0
      have e1 : (wr.alloc (.cells #[.bool p.x.p, .slice p.a.A p.x.l.length p.a.c, .slice p.a.D p.x.m.length p.a.d] 29)).cell? ⟨wr.heap.size, 1, none⟩ = some (.slice p.a.A p.x.l.length p.a.c) := rblk_cell P_e 1
      have e2 : (wr.alloc (.cells #[.bool p.x.p, .slice p.a.A p.x.l.length p.a.c, .slice p.a.D p.x.m.length p.a.d] 29)).cell? ⟨wr.heap.size, 2, none⟩ = some (.slice p.a.D p.x.m.length p.a.d) := rblk_cell P_e 2
      go_wp2_with fail
      clear c0 c1 c2 e0 e1 e2
      refine (HV.out _ hr2).mono ?_
      rintro e w2 ⟨rfl, hb⟩
      have k3 := bt k2 hb
      clear hb k2
      cases b with
      | false =>
        go_wp2
        go_ret
        exact ⟨ret_bool' (by first | exact (HF.out rfl).symm | exact (HF.out trivial).symm), k3⟩
      | true =>
        go_wp2
        go_roundw
        case rel => exact ⟨j + 1, hlt, by go_num, HT.out, k3⟩
        case measure => simp [intOf]; omega
    · obtain rfl : j = n := by omega
      have HT : Hid (validB L = true) := Lib.hid (by rw [HN.out, List.take_length] at hv; exact hv)
      clear hv
      go_wp2
      go_ret
      exact ⟨ret_bool' HT.out.symm, kb⟩
end Go.Proofs.YtppdholccpgcpaaGreat
namespace Go.Proofs.YtppdholccpgcpaaGreat
open Go.ChangeShapes Go.WideShapes Go.ChangeAt Go.RowKit
open Go.ChangeMaps (open_string shut_string)
set_option linter.unusedVariables false
set_option linter.unusedSimpArgs false
set_option maxRecDepth 4000
attribute [local go_sem ↓] Go.wp_at_zero Go.wp_at_succ
theorem both_no {F G : Rat → Rat → Option Rat} {x y u v : R3} (h : (okx x && okx y && (okx u && okx v)) = false) : bothX (binQ F (valx x) (valx u)) (binQ G (valx y) (valx v)) = none ∧ bothY (binQ F (valx x) (valx u)) (binQ G (valx y) (valx v)) = none := by
  have n1 : ∀ (F : Rat → Rat → Option Rat) (o : Option Rat), binQ F none o = none := fun F o => by cases o <;> rfl
  have n2 : ∀ (F : Rat → Rat → Option Rat) (o : Option Rat), binQ F o none = none := fun F o => by cases o <;> rfl
  simp only [Bool.and_eq_false_iff] at h
  rcases h with (h | h) | h | h
  · rw [valx_no h, n1]; exact both_n1 _
  · rw [valx_no h, n1]; exact both_n2 _
  · rw [valx_no h, n2]; exact both_n1 _
  · rw [valx_no h, n2]; exact both_n2 _
theorem bin_n1 (F : Rat → Rat → Option Rat) (o : Option Rat) : binQ F none o = none := by cases o <;> rfl
theorem bin_n2 (F : Rat → Rat → Option Rat) (o : Option Rat) : binQ F o none = none := by cases o <;> rfl
theorem ofQ_fit (x y : Int) : FitO (ofQ x y) := by
  unfold ofQ makQ
  split
  · exact fun r h => lowQ_fit h
  · exact fitO_none
set_option maxHeartbeats 1000000 in
theorem impl_valid (x y : R3) (a b : Ad) (w : World) (hxl : x.l.length ≤ 9223372036854775807) (hxm : x.m.length ≤ 9223372036854775807) (hyl : y.l.length ≤ 9223372036854775807) (hym : y.m.length ≤ 9223372036854775807) (h : Rds w (rows x a ++ rows y b)) :
    Calls Tryz.prog 62 #[.agg #[.bool x.p, .slice a.A x.l.length a.c, .slice a.D x.m.length a.d, .bool y.p, .slice b.A y.l.length b.c, .slice b.D y.m.length b.d]] w (fun e w' => e = .returned (.bool (okx x && okx y)) ∧ Below w.heap.size w w') := by
  have H := Lib.hid (fun W h1 h2 h3 h4 => show Calls Tryz.prog 77 #[.agg #[.bool x.p, .slice a.A x.l.length a.c, .slice a.D x.m.length a.d], .agg #[.bool y.p, .slice b.A y.l.length b.c, .slice b.D y.m.length b.d]] W (fun e w' => e = .returned (.bool (okx x && okx y)) ∧ Below W.heap.size W w') from are_rats x.p y.p x.l x.m y.l y.m a.A a.D b.A b.D x.l.length x.m.length y.l.length y.m.length a.c a.d b.c b.d W rfl rfl rfl rfl hxl hxm hyl hym h1 h2 h3 h4)
  have RR : Hid (∀ W, Below w.heap.size w W → (RdS W a.A (vi x.l) ∧ RdS W a.D (vi x.m)) ∧ RdS W b.A (vi y.l) ∧ RdS W b.D (vi y.m)) := Lib.hid (fun W hb => ⟨rows_rd ((rds_l h).below hb), rows_rd ((rds_r h).below hb)⟩)
  clear h hxl hxm hyl hym
  generalize (okx x && okx y) = r at H ⊢
  go_enter Tryz.func62, Tryz.ntmps62
  go_wp2_with fail
  have kb := ba1 w (.cells #[.bool x.p, .slice a.A x.l.length a.c, .slice a.D x.m.length a.d, .bool y.p, .slice b.A y.l.length b.c, .slice b.D y.m.length b.d] 31)
  have P_p := heap_alloc_new w (.cells #[.bool x.p, .slice a.A x.l.length a.c, .slice a.D x.m.length a.d, .bool y.p, .slice b.A y.l.length b.c, .slice b.D y.m.length b.d] 31)
  generalize w.alloc (.cells #[.bool x.p, .slice a.A x.l.length a.c, .slice a.D x.m.length a.d, .bool y.p, .slice b.A y.l.length b.c, .slice b.D y.m.length b.d] 31) = W1 at kb P_p ⊢
  refine (H.out _ (RR.out _ kb).1.1 (RR.out _ kb).1.2 (RR.out _ kb).2.1 (RR.out _ kb).2.2).mono ?_
  rintro e W2 ⟨rfl, hb⟩
  replace P_p := rblk_below P_p hb
  replace kb := bt kb hb
  clear hb
  go_wp2
  go_ret
  exact ⟨rfl, kb⟩
end Go.Proofs.YtppdholccpgcpaaGreat
