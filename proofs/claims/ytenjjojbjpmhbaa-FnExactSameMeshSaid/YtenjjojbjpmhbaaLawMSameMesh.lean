/-
  The walk of the exact law of SameMesh.
-/
import Derived.Test.YtenjjojbjpmhbaaLawM
import Derived.Test.YtenjjojbjpmhbaaMsP
import Derived.Test.YtenjjojbjpmhbaaMsR
namespace Go.Proofs.Ytenjjojbjpmhbaa
open Go.ChangeShapes Go.WideShapes Go.ChangeAt Go.RowKit
open Go.ChangeMaps (open_string shut_string)
set_option linter.unusedVariables false
set_option linter.unusedSimpArgs false
set_option maxRecDepth 4000

set_option maxHeartbeats 4000000 in
theorem law_sameM (m n : MV) (w : World) (hL : LenM m) (hL' : LenM n) (hA : Rds w (srow m.A m.L)) (hB : RdS w m.B (flatT m.T)) (hA' : Rds w (srow n.A n.L)) (hB' : RdS w n.B (flatT n.T)) :
    Calls Try.prog 4 #[.agg #[.slice m.A m.L.length m.c, .slice m.B m.T.length m.d], .agg #[.slice n.A n.L.length n.c, .slice n.B n.T.length n.d]] w fun e w' => e = .returned (.bool true) ∧ Below w.heap.size w w' := by
  have hz1 := szm_pos m
  have hz2 := szm_pos n
  obtain ⟨l1, hl1⟩ : ∃ l : Int, l = 1048576 - szm m := ⟨_, rfl⟩
  by_cases hg : szm m ≤ 1048576
  case neg =>
    have SZ := Lib.hid (fun W (hb : Below w.heap.size w W) => szMesh_n m 1048576 W hL (by omega) (by omega) hg (hA.hd.below hb))
    clear hg hl1 hA hB hA' hB' hL hL' hz1 hz2
    go_enter Try.func4, Try.ntmps4
    go_wp2_with fail
    have kb := ba2 w (.cells #[.slice m.A m.L.length m.c, .slice m.B m.T.length m.d] 25) (.cells #[.slice n.A n.L.length n.c, .slice n.B n.T.length n.d] 25)
    obtain ⟨P_a, P_b⟩ := blocks2 w (.cells #[.slice m.A m.L.length m.c, .slice m.B m.T.length m.d] 25) (.cells #[.slice n.A n.L.length n.c, .slice n.B n.T.length n.d] 25)
    generalize (w.alloc (.cells #[.slice m.A m.L.length m.c, .slice m.B m.T.length m.d] 25)).alloc (.cells #[.slice n.A n.L.length n.c, .slice n.B n.T.length n.d] 25) = W1 at kb P_a P_b ⊢
    have hzW1 := kb.size
    refine (SZ.out _ kb).mono ?_
    rintro e W2 ⟨rfl, hb⟩
    have hzW2 : W1.heap.size ≤ W2.heap.size := hb.size
    replace P_a := rblk_below P_a hb
    replace P_b := rblk_below P_b hb
    replace kb := bt kb hb
    clear hb
    go_wp2
    go_ret
    exact ⟨rfl, kb⟩
  have SZ := Lib.hid (fun W (hb : Below w.heap.size w W) => szMesh_y m 1048576 W (by omega) (by omega) hg (hA.hd.below hb))
  rw [← hl1] at SZ
  have hs1 : ¬ l1 < 0 := by omega
  by_cases hg' : szm n ≤ l1
  case neg =>
    have SZ2 := Lib.hid (fun W (hb : Below w.heap.size w W) => szMesh_n n l1 W hL' (by omega) (by omega) hg' (hA'.hd.below hb))
    clear hg hg' hl1 hA hB hA' hB' hL hL' hz1 hz2
    go_enter Try.func4, Try.ntmps4
    go_wp2_with fail
    have kb := ba2 w (.cells #[.slice m.A m.L.length m.c, .slice m.B m.T.length m.d] 25) (.cells #[.slice n.A n.L.length n.c, .slice n.B n.T.length n.d] 25)
    obtain ⟨P_a, P_b⟩ := blocks2 w (.cells #[.slice m.A m.L.length m.c, .slice m.B m.T.length m.d] 25) (.cells #[.slice n.A n.L.length n.c, .slice n.B n.T.length n.d] 25)
    generalize (w.alloc (.cells #[.slice m.A m.L.length m.c, .slice m.B m.T.length m.d] 25)).alloc (.cells #[.slice n.A n.L.length n.c, .slice n.B n.T.length n.d] 25) = W1 at kb P_a P_b ⊢
    have hzW1 := kb.size
    refine (SZ.out _ kb).mono ?_
    rintro e W2 ⟨rfl, hb⟩
    have hzW2 : W1.heap.size ≤ W2.heap.size := hb.size
    replace P_a := rblk_below P_a hb
    replace P_b := rblk_below P_b hb
    replace kb := bt kb hb
    clear hb
    have c_b0 : W2.cell? ⟨w.heap.size + 1, 0, none⟩ = some (.slice n.A n.L.length n.c) := rblk_cell P_b 0
    have c_b1 : W2.cell? ⟨w.heap.size + 1, 1, none⟩ = some (.slice n.B n.T.length n.d) := rblk_cell P_b 1
    go_wp2_with fail
    clear c_b0 c_b1
    refine (SZ2.out _ kb).mono ?_
    rintro e W3 ⟨rfl, hb⟩
    have hzW3 : W2.heap.size ≤ W3.heap.size := hb.size
    replace P_a := rblk_below P_a hb
    replace P_b := rblk_below P_b hb
    replace kb := bt kb hb
    clear hb
    go_wp2
    go_ret
    exact ⟨rfl, kb⟩
  have SZ2 := Lib.hid (fun W (hb : Below w.heap.size w W) => szMesh_y n l1 W (by omega) (by omega) hg' (hA'.hd.below hb))
  obtain ⟨l2, hl2⟩ : ∃ l : Int, l = l1 - szm n := ⟨_, rfl⟩
  rw [← hl2] at SZ2
  have hs2 : ¬ l2 < 0 := by omega
  have hm := szm_short hg (Int.le_refl _)
  have hn := szm_short hg' (by omega)
  have T := Lib.hid (fun W (hb : Below w.heap.size w W) => toMesh_r m W hm (hA.below hb) (hB.below hb))
  have TN := Lib.hid (fun W (hb : Below w.heap.size w W) => toMesh_r n W hn (hA'.below hb) (hB'.below hb))
  have E := Lib.hid (fun (N K : MV) W hd hd' h1 h2 h3 h4 => eqMesh_t m N K W hm hd hd' h1 h2 h3 h4)
  have EN := Lib.hid (fun (N K : MV) W hd hd' h1 h2 h3 h4 => eqMesh_t n N K W hn hd hd' h1 h2 h3 h4)
  obtain ⟨r, hr⟩ : ∃ r, r = sameM m n := ⟨_, rfl⟩
  have HS : Hid (∀ (M N : MV) (W : World), datM M = datM m → datM N = datM n → Rds W (srow M.A M.L) → Rds W [(M.B, flatT M.T)] → Rds W (srow N.A N.L) → Rds W [(N.B, flatT N.T)] → Calls Try.prog 14 #[.agg #[.slice M.A M.L.length M.c, .slice M.B M.T.length M.d], .agg #[.slice N.A N.L.length N.c, .slice N.B N.T.length N.d]] W (fun e w' => e = .returned (.bool r) ∧ Below W.heap.size W w')) := Lib.hid (fun M N W hd hd' h1 h2 h3 h4 => by
    have X := spec_sameM M N W (datM_short hd hm) (datM_short hd' hn) h1 h2 h3 h4
    rw [sameM_dat hd hd', ← hr] at X; exact X)
  have HI : Hid (∀ (M N : MV) (W : World), datM M = datM m → datM N = datM n → (∀ q, q ∈ N.L → Pin q.a ∧ Pin q.b) → Rds W (srow M.A M.L) → Rds W [(M.B, flatT M.T)] → Rds W (srow N.A N.L) → Rds W [(N.B, flatT N.T)] → Calls Try.prog 15 #[.agg #[.slice M.A M.L.length M.c, .slice M.B M.T.length M.d], .agg #[.slice N.A N.L.length N.c, .slice N.B N.T.length N.d]] W (fun e w' => e = .returned (.bool r) ∧ Below W.heap.size W w')) := Lib.hid (fun M N W hd hd' hp h1 h2 h3 h4 => by
    have X := impl_sameM M N W (datM_short hd hm) (datM_short hd' hn) hp h1 h2 h3 h4
    rw [sameM_dat hd hd', ← hr] at X; exact X)
  have q1 : (r != r) = false := by simp
  clear hr hg hg' hl1 hl2 hA hB hA' hB' hL hL' hz1 hz2 hm hn
  unfold MadeM at T TN
  go_enter Try.func4, Try.ntmps4
  go_wp2_with fail
  have kb := ba2 w (.cells #[.slice m.A m.L.length m.c, .slice m.B m.T.length m.d] 25) (.cells #[.slice n.A n.L.length n.c, .slice n.B n.T.length n.d] 25)
  obtain ⟨P_a, P_b⟩ := blocks2 w (.cells #[.slice m.A m.L.length m.c, .slice m.B m.T.length m.d] 25) (.cells #[.slice n.A n.L.length n.c, .slice n.B n.T.length n.d] 25)
  generalize (w.alloc (.cells #[.slice m.A m.L.length m.c, .slice m.B m.T.length m.d] 25)).alloc (.cells #[.slice n.A n.L.length n.c, .slice n.B n.T.length n.d] 25) = W1 at kb P_a P_b ⊢
  have hzW1 := kb.size
  refine (SZ.out _ kb).mono ?_
  rintro e W2 ⟨rfl, hb⟩
  have hzW2 : W1.heap.size ≤ W2.heap.size := hb.size
  replace P_a := rblk_below P_a hb
  replace P_b := rblk_below P_b hb
  replace kb := bt kb hb
  clear hb
  have c_b0 : W2.cell? ⟨w.heap.size + 1, 0, none⟩ = some (.slice n.A n.L.length n.c) := rblk_cell P_b 0
  have c_b1 : W2.cell? ⟨w.heap.size + 1, 1, none⟩ = some (.slice n.B n.T.length n.d) := rblk_cell P_b 1
  go_wp2_with fail
  clear c_b0 c_b1
  refine (SZ2.out _ kb).mono ?_
  rintro e W3 ⟨rfl, hb⟩
  have hzW3 : W2.heap.size ≤ W3.heap.size := hb.size
  replace P_a := rblk_below P_a hb
  replace P_b := rblk_below P_b hb
  replace kb := bt kb hb
  clear hb
  go_wp2_with fail
  have SB : Hid (∀ w', Below W3.heap.size W3 w' → (w'.cell? ⟨w.heap.size, 0, none⟩ = some (.slice m.A m.L.length m.c) ∧ w'.cell? ⟨w.heap.size, 1, none⟩ = some (.slice m.B m.T.length m.d) ∧ w'.cell? ⟨w.heap.size + 1, 0, none⟩ = some (.slice n.A n.L.length n.c) ∧ w'.cell? ⟨w.heap.size + 1, 1, none⟩ = some (.slice n.B n.T.length n.d) ∧ Below W3.heap.size W3 w')) := Lib.hid (fun w' hB => ⟨rblk_cell (rblk_below P_a hB) 0, rblk_cell (rblk_below P_a hB) 1, rblk_cell (rblk_below P_b hB) 0, rblk_cell (rblk_below P_b hB) 1, hB⟩)
  have kr := kb
  go_region_held3 (fun w' => w'.cell? ⟨w.heap.size, 0, none⟩ = some (.slice m.A m.L.length m.c) ∧ w'.cell? ⟨w.heap.size, 1, none⟩ = some (.slice m.B m.T.length m.d) ∧ w'.cell? ⟨w.heap.size + 1, 0, none⟩ = some (.slice n.A n.L.length n.c) ∧ w'.cell? ⟨w.heap.size + 1, 1, none⟩ = some (.slice n.B n.T.length n.d) ∧ Below W3.heap.size W3 w')
    (first | (with_reducible exact SB.out _ (Below.refl _ _).drew) | (with_reducible exact SB.out _ (Below.refl _ _)) | (go_split_ands; with_reducible exact SB.out _ (bt (by assumption : Below W3.heap.size W3 _) hb)))
    (first | (go_at_call 7; go_split_ands; ((with_reducible refine (T.out _ (bt kr (by assumption : Below W3.heap.size W3 _))).mono ?_); rintro e Wa ⟨U, jU, rfl, hdU, hcU, hjU, oU, tU, apU, hb⟩)) | (go_at_call 7; go_split_ands; ((with_reducible refine (TN.out _ (bt kr (by assumption : Below W3.heap.size W3 _))).mono ?_); rintro e Wb ⟨V, jV, rfl, hdV, hcV, hjV, oV, tV, apV, hb⟩; (first | (with_reducible replace oU := oU.below hb) | (with_reducible replace oU := (Owns.drew oU).below hb) | (with_reducible replace oU := (oU.below (ba1 _ _)).below hb) | (with_reducible replace oU := (Owns.drew (oU.below (ba1 _ _))).below hb)); (first | (with_reducible replace tU := tU.below hb) | (with_reducible replace tU := (Owns.drew tU).below hb) | (with_reducible replace tU := (tU.below (ba1 _ _)).below hb) | (with_reducible replace tU := (Owns.drew (tU.below (ba1 _ _))).below hb)))) | (go_at_call 14; go_split_ands; ((with_reducible refine (HS.out U V _ hdU hdV (by first | with_reducible exact oU.rds | with_reducible exact (Owns.drew oU).rds | with_reducible exact (oU.below (ba1 _ _)).rds | with_reducible exact (Owns.drew (oU.below (ba1 _ _))).rds) (by first | with_reducible exact tU.rds | with_reducible exact (Owns.drew tU).rds | with_reducible exact (tU.below (ba1 _ _)).rds | with_reducible exact (Owns.drew (tU.below (ba1 _ _))).rds) (by first | with_reducible exact oV.rds | with_reducible exact (Owns.drew oV).rds | with_reducible exact (oV.below (ba1 _ _)).rds | with_reducible exact (Owns.drew (oV.below (ba1 _ _))).rds) (by first | with_reducible exact tV.rds | with_reducible exact (Owns.drew tV).rds | with_reducible exact (tV.below (ba1 _ _)).rds | with_reducible exact (Owns.drew (tV.below (ba1 _ _))).rds)).mono ?_); rintro e W4 ⟨rfl, hb⟩; have KB := bt (by assumption : Below W3.heap.size W3 _) hb)))
  replace P_a := rblk_below P_a KB
  replace P_b := rblk_below P_b KB
  replace kb := bt kr KB
  have hzW4 : W3.heap.size ≤ W4.heap.size := KB.size
  clear KB kr SB oU tU oV tV
  try clear ‹_ ∧ _›
  have c_a0 : W4.cell? ⟨w.heap.size, 0, none⟩ = some (.slice m.A m.L.length m.c) := rblk_cell P_a 0
  have c_a1 : W4.cell? ⟨w.heap.size, 1, none⟩ = some (.slice m.B m.T.length m.d) := rblk_cell P_a 1
  go_wp2_with fail
  clear c_a0 c_a1
  refine (T.out _ kb).mono ?_
  rintro e W5 ⟨M, jM, rfl, hdM, hcM, hjM, oM, tM, apM, hb⟩
  have hzW5 : W4.heap.size ≤ W5.heap.size := hb.size
  replace P_a := rblk_below P_a hb
  replace P_b := rblk_below P_b hb
  replace kb := bt kb hb
  clear hb
  have P_x := heap_alloc_new W5 (.cells #[.slice M.A M.L.length M.c, .slice M.B M.T.length M.d] 31)
  have hb := ba1 W5 (.cells #[.slice M.A M.L.length M.c, .slice M.B M.T.length M.d] 31)
  replace P_a := rblk_below P_a hb
  replace P_b := rblk_below P_b hb
  replace oM := oM.below hb
  replace tM := tM.below hb
  replace kb := bt kb hb
  clear hb
  have hzW6 : W5.heap.size < (W5.alloc (.cells #[.slice M.A M.L.length M.c, .slice M.B M.T.length M.d] 31)).heap.size := by rw [sz1]; omega
  have c_b0 : (W5.alloc (.cells #[.slice M.A M.L.length M.c, .slice M.B M.T.length M.d] 31)).cell? ⟨w.heap.size + 1, 0, none⟩ = some (.slice n.A n.L.length n.c) := rblk_cell P_b 0
  have c_b1 : (W5.alloc (.cells #[.slice M.A M.L.length M.c, .slice M.B M.T.length M.d] 31)).cell? ⟨w.heap.size + 1, 1, none⟩ = some (.slice n.B n.T.length n.d) := rblk_cell P_b 1
  go_wp2_with fail
  clear c_b0 c_b1
  generalize W5.alloc (.cells #[.slice M.A M.L.length M.c, .slice M.B M.T.length M.d] 31) = W6 at kb hzW6 P_a P_b P_x oM tM ⊢
  refine (TN.out _ kb).mono ?_
  rintro e W7 ⟨N, jN, rfl, hdN, hcN, hjN, oN, tN, apN, hb⟩
  have hzW7 : W6.heap.size ≤ W7.heap.size := hb.size
  replace P_a := rblk_below P_a hb
  replace P_b := rblk_below P_b hb
  replace P_x := rblk_below P_x hb
  replace oM := oM.below hb
  replace tM := tM.below hb
  replace kb := bt kb hb
  clear hb
  have P_y := heap_alloc_new W7 (.cells #[.slice N.A N.L.length N.c, .slice N.B N.T.length N.d] 31)
  have hb := ba1 W7 (.cells #[.slice N.A N.L.length N.c, .slice N.B N.T.length N.d] 31)
  replace P_a := rblk_below P_a hb
  replace P_b := rblk_below P_b hb
  replace P_x := rblk_below P_x hb
  replace oM := oM.below hb
  replace tM := tM.below hb
  replace oN := oN.below hb
  replace tN := tN.below hb
  replace kb := bt kb hb
  clear hb
  have hzW8 : W7.heap.size < (W7.alloc (.cells #[.slice N.A N.L.length N.c, .slice N.B N.T.length N.d] 31)).heap.size := by rw [sz1]; omega
  have c_x0 : (W7.alloc (.cells #[.slice N.A N.L.length N.c, .slice N.B N.T.length N.d] 31)).cell? ⟨W5.heap.size, 0, none⟩ = some (.slice M.A M.L.length M.c) := rblk_cell P_x 0
  have c_x1 : (W7.alloc (.cells #[.slice N.A N.L.length N.c, .slice N.B N.T.length N.d] 31)).cell? ⟨W5.heap.size, 1, none⟩ = some (.slice M.B M.T.length M.d) := rblk_cell P_x 1
  go_wp2_with fail
  clear c_x0 c_x1
  generalize W7.alloc (.cells #[.slice N.A N.L.length N.c, .slice N.B N.T.length N.d] 31) = W8 at kb hzW8 P_a P_b P_x P_y oM tM oN tN ⊢
  refine (HI.out M N _ hdM hdN (fun q hq => (hcN.2.2 q hq).2) oM.rds tM.rds oN.rds tN.rds).mono ?_
  rintro e W9 ⟨rfl, hb⟩
  have hzW9 : W8.heap.size ≤ W9.heap.size := hb.size
  replace P_a := rblk_below P_a hb
  replace P_b := rblk_below P_b hb
  replace P_x := rblk_below P_x hb
  replace P_y := rblk_below P_y hb
  replace oM := oM.below hb
  replace tM := tM.below hb
  replace oN := oN.below hb
  replace tN := tN.below hb
  replace kb := bt kb hb
  clear hb
  go_wp2_with fail
  have SB : Hid (∀ w', Below W9.heap.size W9 w' → (w'.cell? ⟨W5.heap.size, 0, none⟩ = some (.slice M.A M.L.length M.c) ∧ w'.cell? ⟨W5.heap.size, 1, none⟩ = some (.slice M.B M.T.length M.d) ∧ w'.cell? ⟨w.heap.size, 0, none⟩ = some (.slice m.A m.L.length m.c) ∧ w'.cell? ⟨w.heap.size, 1, none⟩ = some (.slice m.B m.T.length m.d) ∧ Below W9.heap.size W9 w')) := Lib.hid (fun w' hB => ⟨rblk_cell (rblk_below P_x hB) 0, rblk_cell (rblk_below P_x hB) 1, rblk_cell (rblk_below P_a hB) 0, rblk_cell (rblk_below P_a hB) 1, hB⟩)
  have kr := kb
  go_region_held3 (fun w' => w'.cell? ⟨W5.heap.size, 0, none⟩ = some (.slice M.A M.L.length M.c) ∧ w'.cell? ⟨W5.heap.size, 1, none⟩ = some (.slice M.B M.T.length M.d) ∧ w'.cell? ⟨w.heap.size, 0, none⟩ = some (.slice m.A m.L.length m.c) ∧ w'.cell? ⟨w.heap.size, 1, none⟩ = some (.slice m.B m.T.length m.d) ∧ Below W9.heap.size W9 w')
    (first | (with_reducible exact SB.out _ (Below.refl _ _).drew) | (with_reducible exact SB.out _ (Below.refl _ _)) | (go_split_ands; with_reducible exact SB.out _ (bt (by assumption : Below W9.heap.size W9 _) hb)))
    (first | (go_at_call 7; go_split_ands; ((with_reducible refine (T.out _ (bt kr (by assumption : Below W9.heap.size W9 _))).mono ?_); rintro e Wa10 ⟨Q10, jq10, rfl, hdq10, hcq10, hjq10, oq10, tq10, apq10, hb⟩)) | (go_at_call 10; go_split_ands; ((with_reducible refine (E.out M Q10 _ hdM hdq10 (oM.below (by assumption : Below W9.heap.size W9 _)).rds (tM.below (by assumption : Below W9.heap.size W9 _)).rds (by first | with_reducible exact oq10.rds | with_reducible exact (Owns.drew oq10).rds | with_reducible exact (oq10.below (ba1 _ _)).rds | with_reducible exact (Owns.drew (oq10.below (ba1 _ _))).rds) (by first | with_reducible exact tq10.rds | with_reducible exact (Owns.drew tq10).rds | with_reducible exact (tq10.below (ba1 _ _)).rds | with_reducible exact (Owns.drew (tq10.below (ba1 _ _))).rds)).mono ?_); rintro e W10 ⟨rfl, hb⟩; have KB := bt (by assumption : Below W9.heap.size W9 _) hb)))
  replace P_a := rblk_below P_a KB
  replace P_b := rblk_below P_b KB
  replace P_x := rblk_below P_x KB
  replace P_y := rblk_below P_y KB
  replace oM := oM.below KB
  replace tM := tM.below KB
  replace oN := oN.below KB
  replace tN := tN.below KB
  replace kb := bt kr KB
  have hzW10 : W9.heap.size ≤ W10.heap.size := KB.size
  clear KB kr SB oq10 tq10
  try clear ‹_ ∧ _›
  go_wp2_with fail
  have SB : Hid (∀ w', Below W10.heap.size W10 w' → (w'.cell? ⟨W7.heap.size, 0, none⟩ = some (.slice N.A N.L.length N.c) ∧ w'.cell? ⟨W7.heap.size, 1, none⟩ = some (.slice N.B N.T.length N.d) ∧ w'.cell? ⟨w.heap.size + 1, 0, none⟩ = some (.slice n.A n.L.length n.c) ∧ w'.cell? ⟨w.heap.size + 1, 1, none⟩ = some (.slice n.B n.T.length n.d) ∧ Below W10.heap.size W10 w')) := Lib.hid (fun w' hB => ⟨rblk_cell (rblk_below P_y hB) 0, rblk_cell (rblk_below P_y hB) 1, rblk_cell (rblk_below P_b hB) 0, rblk_cell (rblk_below P_b hB) 1, hB⟩)
  have kr := kb
  go_region_held3 (fun w' => w'.cell? ⟨W7.heap.size, 0, none⟩ = some (.slice N.A N.L.length N.c) ∧ w'.cell? ⟨W7.heap.size, 1, none⟩ = some (.slice N.B N.T.length N.d) ∧ w'.cell? ⟨w.heap.size + 1, 0, none⟩ = some (.slice n.A n.L.length n.c) ∧ w'.cell? ⟨w.heap.size + 1, 1, none⟩ = some (.slice n.B n.T.length n.d) ∧ Below W10.heap.size W10 w')
    (first | (with_reducible exact SB.out _ (Below.refl _ _).drew) | (with_reducible exact SB.out _ (Below.refl _ _)) | (go_split_ands; with_reducible exact SB.out _ (bt (by assumption : Below W10.heap.size W10 _) hb)))
    (first | (go_at_call 7; go_split_ands; ((with_reducible refine (TN.out _ (bt kr (by assumption : Below W10.heap.size W10 _))).mono ?_); rintro e Wa11 ⟨Q11, jq11, rfl, hdq11, hcq11, hjq11, oq11, tq11, apq11, hb⟩)) | (go_at_call 10; go_split_ands; ((with_reducible refine (EN.out N Q11 _ hdN hdq11 (oN.below (by assumption : Below W10.heap.size W10 _)).rds (tN.below (by assumption : Below W10.heap.size W10 _)).rds (by first | with_reducible exact oq11.rds | with_reducible exact (Owns.drew oq11).rds | with_reducible exact (oq11.below (ba1 _ _)).rds | with_reducible exact (Owns.drew (oq11.below (ba1 _ _))).rds) (by first | with_reducible exact tq11.rds | with_reducible exact (Owns.drew tq11).rds | with_reducible exact (tq11.below (ba1 _ _)).rds | with_reducible exact (Owns.drew (tq11.below (ba1 _ _))).rds)).mono ?_); rintro e W11 ⟨rfl, hb⟩; have KB := bt (by assumption : Below W10.heap.size W10 _) hb)))
  replace P_a := rblk_below P_a KB
  replace P_b := rblk_below P_b KB
  replace P_x := rblk_below P_x KB
  replace P_y := rblk_below P_y KB
  replace oM := oM.below KB
  replace tM := tM.below KB
  replace oN := oN.below KB
  replace tN := tN.below KB
  replace kb := bt kr KB
  have hzW11 : W10.heap.size ≤ W11.heap.size := KB.size
  clear KB kr SB oq11 tq11
  try clear ‹_ ∧ _›
  go_wp2
  go_ret
  exact ⟨rfl, kb⟩
end Go.Proofs.Ytenjjojbjpmhbaa
