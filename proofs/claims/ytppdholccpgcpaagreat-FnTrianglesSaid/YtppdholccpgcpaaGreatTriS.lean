/-
  The model's functions of triangles: IsProper, AreaOf.
-/
import Derived.Test.YtppdholccpgcpaaGreatTri
import Derived.Test.YtppdholccpgcpaaGreatStore
import Derived.Test.YtppdholccpgcpaaGreatLawP
namespace Go.Proofs.YtppdholccpgcpaaGreat
open Go.ChangeShapes Go.WideShapes Go.ChangeAt Go.RowKit
set_option linter.unusedVariables false
set_option linter.unusedSimpArgs false
set_option maxRecDepth 4000
attribute [local go_sem ↓] Go.wp_at_zero Go.wp_at_succ
theorem spec_sign_r (x : R3) (a : Ad) (w : World) (hxl : x.l.length ≤ 9223372036854775807) (hxm : x.m.length ≤ 9223372036854775807) (h : Rds w (rows x a)) :
    Calls Tryz.prog 162 #[.agg (r3 x a)] w (fun e w' => e = .returned (.int .i64 (sgnO (valx x))) ∧ Below w.heap.size w w') :=
  spec_rsign x.p x.l x.m a.A a.D _ _ a.c a.d w rfl rfl hxl hxm (rows_rd h).1 (rows_rd h).2
theorem proper_eq (p q r : PV) : (okP p && okP q && okP r && okx (ofO (aV p q r)) && decide (0 < sgnO (aV p q r))) = decide (0 < sgnO (aV p q r)) := by
  cases hk : okP p && (okP q && okP r) with
  | false => rw [aV_no hk]; simp [sgnO]
  | true =>
    rw [Bool.and_eq_true, Bool.and_eq_true] at hk
    rw [hk.1, hk.2.1, hk.2.2, okx_ofO (aV_fit p q r)]
    cases aV p q r with
    | none => rfl
    | some s => simp
set_option maxHeartbeats 2000000 in
theorem spec_proper (L : List PV) (A : Option Addr) (c : Nat) (w : World) (hn : L.length ≤ 9223372036854775807) (hL : ∀ p, p ∈ L → LenP p) (hC : ∀ p, p ∈ L → CapP p) (hA : RdS w A (flat L)) (hR : Rds w (lrow L)) :
    Calls Tryz.prog 99 #[.slice A L.length c] w (fun e w' => e = .returned (.bool (properB L)) ∧ Below w.heap.size w w') := by
  by_cases h3 : L.length = 3
  · obtain ⟨p, q, r, rfl⟩ := three_of_len h3
    obtain ⟨g, o, rfl, hg, c0, c1, c2, c3, c4, c5, c6, c7, c8, c9, c10, c11, c12, c13, c14, c15, c16, c17⟩ := hA.tri
    have HA := Lib.hid (fun W h1 h2 h3 => spec_areaV p q r W (hL p (by simp)) (hL q (by simp)) (hL r (by simp)) (hC p (by simp)) (hC q (by simp)) (hC r (by simp)) h1 h2 h3)
    have HV1 := Lib.hid (fun W h => spec_validV p W (hL p (by simp)) h)
    have HV2 := Lib.hid (fun W h => spec_validV q W (hL q (by simp)) h)
    have HV3 := Lib.hid (fun W h => spec_validV r W (hL r (by simp)) h)
    have hsh := (aV_fit p q r).len
    have HK := Lib.hid (fun a W h => spec_rok_r (ofO (aV p q r)) a W (by omega) (by omega) h)
    have HG := Lib.hid (fun a W h => spec_sign_r (ofO (aV p q r)) a W (by omega) (by omega) h)
    rw [valx_ofO (aV_fit p q r)] at HG
    have HB := Lib.hid (proper_eq p q r)
    have RR : Hid (∀ W, Below w.heap.size w W → Rds W (prow p) ∧ Rds W (prow q) ∧ Rds W (prow r)) := Lib.hid (fun W hB => ⟨(hR.at (i := 0) rfl).below hB, (hR.at (i := 1) rfl).below hB, (hR.at (i := 2) rfl).below hB⟩)
    show Calls Tryz.prog 99 #[.slice (some ⟨g, o, none⟩) 3 c] w (fun e w' => e = .returned (.bool (decide (0 < sgnO (aV p q r)))) ∧ Below w.heap.size w w')
    generalize hsg : sgnO (aV p q r) = sg at HG HB ⊢
    clear hsg
    generalize okx (ofO (aV p q r)) = b4 at HK HB
    generalize ofO (aV p q r) = U at HA HG HK
    generalize okP p = b1 at HV1 HB
    generalize okP q = b2 at HV2 HB
    generalize okP r = b3 at HV3 HB
    have SL : Hid (∀ w', Below w.heap.size w w' → (w'.cell? ⟨g, o, none⟩ = some (.bool p.x.p) ∧ w'.cell? ⟨g, o + 1, none⟩ = some (.slice p.a.A p.x.l.length p.a.c) ∧ w'.cell? ⟨g, o + 2, none⟩ = some (.slice p.a.D p.x.m.length p.a.d) ∧ w'.cell? ⟨g, o + 3, none⟩ = some (.bool p.y.p) ∧ w'.cell? ⟨g, o + 4, none⟩ = some (.slice p.b.A p.y.l.length p.b.c) ∧ w'.cell? ⟨g, o + 5, none⟩ = some (.slice p.b.D p.y.m.length p.b.d) ∧ w'.cell? ⟨g, o + 6, none⟩ = some (.bool q.x.p) ∧ w'.cell? ⟨g, o + 7, none⟩ = some (.slice q.a.A q.x.l.length q.a.c) ∧ w'.cell? ⟨g, o + 8, none⟩ = some (.slice q.a.D q.x.m.length q.a.d) ∧ w'.cell? ⟨g, o + 9, none⟩ = some (.bool q.y.p) ∧ w'.cell? ⟨g, o + 10, none⟩ = some (.slice q.b.A q.y.l.length q.b.c) ∧ w'.cell? ⟨g, o + 11, none⟩ = some (.slice q.b.D q.y.m.length q.b.d) ∧ w'.cell? ⟨g, o + 12, none⟩ = some (.bool r.x.p) ∧ w'.cell? ⟨g, o + 13, none⟩ = some (.slice r.a.A r.x.l.length r.a.c) ∧ w'.cell? ⟨g, o + 14, none⟩ = some (.slice r.a.D r.x.m.length r.a.d) ∧ w'.cell? ⟨g, o + 15, none⟩ = some (.bool r.y.p) ∧ w'.cell? ⟨g, o + 16, none⟩ = some (.slice r.b.A r.y.l.length r.b.c) ∧ w'.cell? ⟨g, o + 17, none⟩ = some (.slice r.b.D r.y.m.length r.b.d))) := Lib.hid (fun w' hB => ⟨below_cell hB c0, below_cell hB c1, below_cell hB c2, below_cell hB c3, below_cell hB c4, below_cell hB c5, below_cell hB c6, below_cell hB c7, below_cell hB c8, below_cell hB c9, below_cell hB c10, below_cell hB c11, below_cell hB c12, below_cell hB c13, below_cell hB c14, below_cell hB c15, below_cell hB c16, below_cell hB c17⟩)
    unfold MadeQ at HA
    clear hA hR hL hC hn h3 hsh
    go_enter Tryz.func99, Tryz.ntmps99
    go_wp2_with fail
    have kb := Below.refl w.heap.size w
    have SB : Hid (∀ w', Below w.heap.size w w' → (w'.cell? ⟨g, o, none⟩ = some (.bool p.x.p) ∧ w'.cell? ⟨g, o + 1, none⟩ = some (.slice p.a.A p.x.l.length p.a.c) ∧ w'.cell? ⟨g, o + 2, none⟩ = some (.slice p.a.D p.x.m.length p.a.d) ∧ w'.cell? ⟨g, o + 3, none⟩ = some (.bool p.y.p) ∧ w'.cell? ⟨g, o + 4, none⟩ = some (.slice p.b.A p.y.l.length p.b.c) ∧ w'.cell? ⟨g, o + 5, none⟩ = some (.slice p.b.D p.y.m.length p.b.d) ∧ w'.cell? ⟨g, o + 6, none⟩ = some (.bool q.x.p) ∧ w'.cell? ⟨g, o + 7, none⟩ = some (.slice q.a.A q.x.l.length q.a.c) ∧ w'.cell? ⟨g, o + 8, none⟩ = some (.slice q.a.D q.x.m.length q.a.d) ∧ w'.cell? ⟨g, o + 9, none⟩ = some (.bool q.y.p) ∧ w'.cell? ⟨g, o + 10, none⟩ = some (.slice q.b.A q.y.l.length q.b.c) ∧ w'.cell? ⟨g, o + 11, none⟩ = some (.slice q.b.D q.y.m.length q.b.d) ∧ w'.cell? ⟨g, o + 12, none⟩ = some (.bool r.x.p) ∧ w'.cell? ⟨g, o + 13, none⟩ = some (.slice r.a.A r.x.l.length r.a.c) ∧ w'.cell? ⟨g, o + 14, none⟩ = some (.slice r.a.D r.x.m.length r.a.d) ∧ w'.cell? ⟨g, o + 15, none⟩ = some (.bool r.y.p) ∧ w'.cell? ⟨g, o + 16, none⟩ = some (.slice r.b.A r.y.l.length r.b.c) ∧ w'.cell? ⟨g, o + 17, none⟩ = some (.slice r.b.D r.y.m.length r.b.d) ∧ Below w.heap.size w w')) := Lib.hid (fun w' hB => ⟨below_cell hB c0, below_cell hB c1, below_cell hB c2, below_cell hB c3, below_cell hB c4, below_cell hB c5, below_cell hB c6, below_cell hB c7, below_cell hB c8, below_cell hB c9, below_cell hB c10, below_cell hB c11, below_cell hB c12, below_cell hB c13, below_cell hB c14, below_cell hB c15, below_cell hB c16, below_cell hB c17, hB⟩)
    have KW := Lib.hid kb
    go_cut [3] (fun sv wx => CutV3 w 29 U sv wx)
    case first =>
      clear kb
      go_region_held3 (fun w' => w'.cell? ⟨g, o, none⟩ = some (.bool p.x.p) ∧ w'.cell? ⟨g, o + 1, none⟩ = some (.slice p.a.A p.x.l.length p.a.c) ∧ w'.cell? ⟨g, o + 2, none⟩ = some (.slice p.a.D p.x.m.length p.a.d) ∧ w'.cell? ⟨g, o + 3, none⟩ = some (.bool p.y.p) ∧ w'.cell? ⟨g, o + 4, none⟩ = some (.slice p.b.A p.y.l.length p.b.c) ∧ w'.cell? ⟨g, o + 5, none⟩ = some (.slice p.b.D p.y.m.length p.b.d) ∧ w'.cell? ⟨g, o + 6, none⟩ = some (.bool q.x.p) ∧ w'.cell? ⟨g, o + 7, none⟩ = some (.slice q.a.A q.x.l.length q.a.c) ∧ w'.cell? ⟨g, o + 8, none⟩ = some (.slice q.a.D q.x.m.length q.a.d) ∧ w'.cell? ⟨g, o + 9, none⟩ = some (.bool q.y.p) ∧ w'.cell? ⟨g, o + 10, none⟩ = some (.slice q.b.A q.y.l.length q.b.c) ∧ w'.cell? ⟨g, o + 11, none⟩ = some (.slice q.b.D q.y.m.length q.b.d) ∧ w'.cell? ⟨g, o + 12, none⟩ = some (.bool r.x.p) ∧ w'.cell? ⟨g, o + 13, none⟩ = some (.slice r.a.A r.x.l.length r.a.c) ∧ w'.cell? ⟨g, o + 14, none⟩ = some (.slice r.a.D r.x.m.length r.a.d) ∧ w'.cell? ⟨g, o + 15, none⟩ = some (.bool r.y.p) ∧ w'.cell? ⟨g, o + 16, none⟩ = some (.slice r.b.A r.y.l.length r.b.c) ∧ w'.cell? ⟨g, o + 17, none⟩ = some (.slice r.b.D r.y.m.length r.b.d) ∧ Below w.heap.size w w')
        (first | (go_split_ands; with_reducible refine SB.out _ ?_; with_reducible refine below_put3 ?_ ?_ _ _ _; with_reducible assumption; (first | with_reducible exact Nat.le_refl _ | with_reducible assumption | exact Nat.le_refl _ | assumption)) | (with_reducible exact SB.out _ (Below.refl _ _).drew) | (with_reducible exact SB.out _ (ba1 _ _).drew) | (with_reducible exact SB.out _ (ba1 _ _)) | (with_reducible exact SB.out _ (Below.refl _ _)) | (go_split_ands; with_reducible exact SB.out _ (bt (by assumption : Below w.heap.size w _) hb)) | (go_split_ands; with_reducible exact SB.out _ (Below.alloc (by assumption : Below w.heap.size w _) (Below.size (by assumption : Below w.heap.size w _)) _)))
        (first | (go_at_call 100; go_split_ands; ((with_reducible refine (HA.out _ (RR.out _ (bt KW.out (by assumption : Below w.heap.size w _))).1 (RR.out _ (bt KW.out (by assumption : Below w.heap.size w _))).2.1 (RR.out _ (bt KW.out (by assumption : Below w.heap.size w _))).2.2).mono ?_); rintro e Wq0 ⟨a1, rfl, hc1, hc2, o1, hap1, hb⟩; have hcap := And.intro hc1 hc2; have KB0 := (by assumption : Below w.heap.size w _); have KB := bt KB0 hb; have hsC := KB.size; have hs0 := KB0.size; (first | (with_reducible have tt := (tt_a hb).1; with_reducible have hgB := (tt_a hb).2) | (with_reducible have tt := (tt_b hb).1; with_reducible have hgB := (tt_b hb).2) | (with_reducible have hgB := (tt_c tt hb).2; with_reducible replace tt := (tt_c tt hb).1) | skip); (first | (have t0 := rblk_cell tt 0; have q0 := rblk_free tt 0; have t1 := rblk_cell tt 1; have q1 := rblk_free tt 1; have t2 := rblk_cell tt 2; have q2 := rblk_free tt 2) | skip))))
      all_goals (go_wp2_with fail; go_meet; first | (with_reducible exact cutV3_late hsC hcap o1 hs0 (Nat.le_refl _) hap1 KB) | (with_reducible exact cutV3_early tt (by first | with_reducible exact Nat.le_refl _ | with_reducible assumption | exact Nat.le_refl _ | assumption) hgB hcap o1 hs0 (Nat.le_refl _) hap1 KB))
    case rest =>
      obtain ⟨g_d, a1, rfl, hlo_d, hcap_d, P_d, o1, hap1, hb⟩ := hcut
      obtain ⟨W1, hWn⟩ : ∃ W', W' = wc := ⟨_, rfl⟩
      subst hWn
      replace kb := bt kb hb
      clear hb KW SB
      clear c0 c1 c2 c3 c4 c5 c6 c7 c8 c9 c10 c11 c12 c13 c14 c15 c16 c17
      have HW := Lib.hid kb
      obtain ⟨c0, c1, c2, c3, c4, c5, c6, c7, c8, c9, c10, c11, c12, c13, c14, c15, c16, c17⟩ := SL.out _ kb
      go_wp2_with fail
      clear c0 c1 c2 c3 c4 c5 c6 c7 c8 c9 c10 c11 c12 c13 c14 c15 c16 c17
      refine (HV1.out _ (RR.out _ kb).1).mono ?_
      rintro e W2 ⟨rfl, hb⟩
      replace P_d := rblk_below P_d hb
      replace o1 := o1.below hb
      replace kb := bt kb hb
      clear hb
      cases b1 with
      | false =>
        go_wp2
        go_ret
        exact ⟨by rw [← HB.out]; simp, kb⟩
      | true =>
        obtain ⟨c0, c1, c2, c3, c4, c5, c6, c7, c8, c9, c10, c11, c12, c13, c14, c15, c16, c17⟩ := SL.out _ kb
        go_wp2_with fail
        clear c0 c1 c2 c3 c4 c5 c6 c7 c8 c9 c10 c11 c12 c13 c14 c15 c16 c17
        refine (HV2.out _ (RR.out _ kb).2.1).mono ?_
        rintro e W3 ⟨rfl, hb⟩
        replace P_d := rblk_below P_d hb
        replace o1 := o1.below hb
        replace kb := bt kb hb
        clear hb
        cases b2 with
        | false =>
          go_wp2
          go_ret
          exact ⟨by rw [← HB.out]; simp, kb⟩
        | true =>
          obtain ⟨c0, c1, c2, c3, c4, c5, c6, c7, c8, c9, c10, c11, c12, c13, c14, c15, c16, c17⟩ := SL.out _ kb
          go_wp2_with fail
          clear c0 c1 c2 c3 c4 c5 c6 c7 c8 c9 c10 c11 c12 c13 c14 c15 c16 c17
          refine (HV3.out _ (RR.out _ kb).2.2).mono ?_
          rintro e W4 ⟨rfl, hb⟩
          replace P_d := rblk_below P_d hb
          replace o1 := o1.below hb
          replace kb := bt kb hb
          clear hb
          cases b3 with
          | false =>
            go_wp2
            go_ret
            exact ⟨by rw [← HB.out]; simp, kb⟩
          | true =>
            have c_d0 := rblk_cell P_d 0
            have c_d1 := rblk_cell P_d 1
            have c_d2 := rblk_cell P_d 2
            go_wp2_with fail
            clear c_d0 c_d1 c_d2
            refine (HK.out a1 _ o1.rds).mono ?_
            rintro e W5 ⟨rfl, hb⟩
            replace P_d := rblk_below P_d hb
            replace o1 := o1.below hb
            replace kb := bt kb hb
            clear hb
            cases b4 with
            | false =>
              go_wp2
              go_ret
              exact ⟨by rw [← HB.out]; simp, kb⟩
            | true =>
              have c_d0 := rblk_cell P_d 0
              have c_d1 := rblk_cell P_d 1
              have c_d2 := rblk_cell P_d 2
              go_wp2_with fail
              clear c_d0 c_d1 c_d2
              refine (HG.out a1 _ o1.rds).mono ?_
              rintro e W6 ⟨rfl, hb⟩
              replace P_d := rblk_below P_d hb
              replace o1 := o1.below hb
              replace kb := bt kb hb
              clear hb
              go_wp2
              go_ret
              exact ⟨by rw [← HB.out]; simp, kb⟩
  · rw [properB_len h3]
    generalize L.length = n at h3 hn ⊢
    have q : ((n : Int) != 3) = true := by simp; omega
    clear hA hR hL hC
    go_enter Tryz.func99, Tryz.ntmps99
    go_wp2
    go_ret
    exact ⟨rfl, Below.refl _ _⟩
end Go.Proofs.YtppdholccpgcpaaGreat
