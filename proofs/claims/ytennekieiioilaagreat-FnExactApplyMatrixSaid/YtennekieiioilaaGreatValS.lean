/-
  A list of valid fractions; a proper corner list with three values: the model's l11Valid and l12Ok.
-/
import Derived.Test.YtennekieiioilaaGreatValB
import Derived.Test.YtennekieiioilaaGreatPkE
namespace Go.Proofs.YtennekieiioilaaGreat
open Go.ChangeShapes Go.WideShapes Go.ChangeAt Go.RowKit
open Go.ChangeMaps (open_string shut_string)
set_option linter.unusedVariables false
set_option linter.unusedSimpArgs false
set_option maxRecDepth 4000

attribute [local go_sem ↓] Go.wp_at_zero Go.wp_at_succ
set_option maxHeartbeats 1000000 in
theorem spec_valid (L : List RV) (A : Option Addr) (c : Nat) (w : World) (hn : L.length ≤ 9223372036854775807) (hL : ∀ p, p ∈ L → LenQ p) (hA : RdS w A (flatQ L)) (hR : Rds w (lrowQ L)) :
    Calls Tryz.prog 50 #[.slice A L.length c] w (fun e w' => e = .returned (.bool (validB L)) ∧ Below w.heap.size w w') := by
  have RA : Hid (∀ W, Below w.heap.size w W → RdS W A (flatQ L) ∧ Rds W (lrowQ L)) := Lib.hid (fun W hb => ⟨hA.below hb, hR.below hb⟩)
  obtain ⟨n, hnn⟩ : ∃ n, n = L.length := ⟨_, rfl⟩
  rw [← hnn] at hn ⊢
  have HN := Lib.hid hnn
  have HLL := Lib.hid hL
  clear hnn hA hR hL
  go_enter Tryz.func50, Tryz.ntmps50
  go_wp2
  go_loopw [7] (fun k w' => ∃ j : Nat, j ≤ n ∧ k = .int .i64 (j : Int) ∧ validB (L.take j) = true ∧ Below w.heap.size w w') (fun k _ => n - (intOf k).toNat)
  case atStart => exact ⟨0, Nat.zero_le _, rfl, rfl, Below.refl _ _⟩
  case round =>
    obtain ⟨j, hj, rfl, hv, kb⟩ := hrel
    by_cases hlt : j < n
    · obtain ⟨p, hp⟩ := getQ (L := L) (i := j) (by rw [← HN.out]; exact hlt)
      obtain ⟨g, o, rfl, _, c0, c1, c2⟩ := (RA.out _ kb).1.three hp
      have lp := HLL.out p (List.mem_of_getElem? hp)
      have HV := Lib.hid (fun W h => show Calls Tryz.prog 76 #[.agg #[.bool p.x.p, .slice p.a.A p.x.l.length p.a.c, .slice p.a.D p.x.m.length p.a.d]] W (fun e w' => e = .returned (.bool (okx p.x)) ∧ Below W.heap.size W w') from spec_rok p.x.p p.x.l p.x.m p.a.A p.a.D _ p.a.c _ p.a.d W rfl rfl lp.1 lp.2 (rows_rd h).1 (rows_rd h).2)
      have HT : Hid (validB (L.take (j + 1)) = okx p.x) := Lib.hid (by
        have hv' := hv
        unfold validB at hv' ⊢
        rw [take_succQ hp, List.all_append, hv']; simp)
      have HF : Hid (okx p.x = false → validB L = false) := Lib.hid (fun h => by
        cases hx : validB L with
        | false => rfl
        | true => rw [validB_at hx hp] at h; cases h)
      have HR := Lib.hid ((RA.out _ kb).2.atQ hp)
      generalize okx p.x = b at HV HT HF
      have hi0 : (0 : Int) ≤ (j : Int) := by omega
      have hi1 : (j : Int) < (n : Int) := by omega
      have P_e := heap_alloc_new wr (.cells #[.bool p.x.p, .slice p.a.A p.x.l.length p.a.c, .slice p.a.D p.x.m.length p.a.d] 30)
      have hb := ba1 wr (.cells #[.bool p.x.p, .slice p.a.A p.x.l.length p.a.c, .slice p.a.D p.x.m.length p.a.d] 30)
      have k2 := bt kb hb
      have hr2 := HR.out.below hb
      clear hp hv lp kb hb
      have e0 : (wr.alloc (.cells #[.bool p.x.p, .slice p.a.A p.x.l.length p.a.c, .slice p.a.D p.x.m.length p.a.d] 30)).cell? ⟨wr.heap.size, 0, none⟩ = some (.bool p.x.p) := rblk_cell P_e 0
      have e1 : (wr.alloc (.cells #[.bool p.x.p, .slice p.a.A p.x.l.length p.a.c, .slice p.a.D p.x.m.length p.a.d] 30)).cell? ⟨wr.heap.size, 1, none⟩ = some (.slice p.a.A p.x.l.length p.a.c) := rblk_cell P_e 1
      have e2 : (wr.alloc (.cells #[.bool p.x.p, .slice p.a.A p.x.l.length p.a.c, .slice p.a.D p.x.m.length p.a.d] 30)).cell? ⟨wr.heap.size, 2, none⟩ = some (.slice p.a.D p.x.m.length p.a.d) := rblk_cell P_e 2
      go_wp2_with fail
      clear c0 c1 c2 e0 e1 e2
      refine (HV.out _ hr2).mono ?_
      rintro e w2 ⟨rfl, hb⟩
      have k3 := bt k2 hb
      clear hb k2
      cases b with
      | false =>
        go_wp2
        go_ret
        exact ⟨ret_bool' (by first | exact (HF.out rfl).symm | exact (HF.out trivial).symm), k3⟩
      | true =>
        go_wp2
        go_roundw
        case rel => exact ⟨j + 1, hlt, by go_num, HT.out, k3⟩
        case measure => simp [intOf]; omega
    · obtain rfl : j = n := by omega
      have HT : Hid (validB L = true) := Lib.hid (by rw [HN.out, List.take_length] at hv; exact hv)
      clear hv
      go_wp2
      go_ret
      exact ⟨ret_bool' HT.out.symm, kb⟩

end Go.Proofs.YtennekieiioilaaGreat
