/-
  SameMesh: the model.
-/
import Derived.Test.YtoknolholccamaaMsP
import Derived.Test.YtoknolholccamaaPtS
namespace Go.Proofs.Ytoknolholccamaa
open Go.ChangeShapes Go.WideShapes Go.ChangeAt Go.RowKit
open Go.ChangeMaps (open_string shut_string)
set_option linter.unusedVariables false
set_option linter.unusedSimpArgs false
set_option maxRecDepth 4000

attribute [local go_sem high] neq_tri guard_tri
set_option maxHeartbeats 2000000 in
theorem spec_sameM0 (Lm Ln : List PV) (Am An Bm Bn : Option Addr) (Tm Tn : List TV) (cm cn dm dn : Nat) (w : World) (hm : Lm.length ≤ 1048576 ∧ Tm.length ≤ 1048576 ∧ ∀ p, p ∈ Lm → ShortP p) (hn : Ln.length ≤ 1048576 ∧ Tn.length ≤ 1048576 ∧ ∀ p, p ∈ Ln → ShortP p) (hA : Rds w (srow Am Lm)) (hB : Rds w [(Bm, flatT Tm)]) (hA' : Rds w (srow An Ln)) (hB' : Rds w [(Bn, flatT Tn)]) :
    Calls Try.prog 11 #[.agg #[.slice Am Lm.length cm, .slice Bm Tm.length dm], .agg #[.slice An Ln.length cn, .slice Bn Tn.length dn]] w (fun e w' => e = .returned (.bool ((sameS Lm Ln && sameT Tm Tn))) ∧ Below w.heap.size w w') := by
  obtain ⟨s1, s2, s3⟩ := hm
  obtain ⟨s4, s5, s6⟩ := hn
  by_cases hl : Lm.length = Ln.length
  case neg =>
    have HR : Hid ((sameS Lm Ln && sameT Tm Tn) = false) := Lib.hid (by rw [sameS_len hl]; rfl)
    have hne : ((Lm.length : Int) != (Ln.length : Int)) = true := by simp; omega
    clear hA hB hA' hB' s3 s6
    generalize Lm.length = k1 at *
    generalize Ln.length = k2 at *
    go_enter Try.func11, Try.ntmps11
    go_wp2
    go_ret
    exact ⟨by rw [HR.out]; rfl, ba2 _ _ _⟩
  have hne : ((Lm.length : Int) != (Ln.length : Int)) = false := by rw [hl]; simp
  by_cases ht : Tm.length = Tn.length
  case neg =>
    have HR : Hid ((sameS Lm Ln && sameT Tm Tn) = false) := Lib.hid (by rw [sameT_len ht, Bool.and_false])
    have hne2 : ((Tm.length : Int) != (Tn.length : Int)) = true := by simp; omega
    clear hA hB hA' hB' s3 s6 hl
    generalize Lm.length = k1 at *
    generalize Ln.length = k2 at *
    generalize Tm.length = k3 at *
    generalize Tn.length = k4 at *
    go_enter Try.func11, Try.ntmps11
    go_wp2
    go_ret
    exact ⟨by rw [HR.out]; rfl, ba2 _ _ _⟩
  obtain ⟨n1, hn1⟩ : ∃ k, k = Lm.length := ⟨_, rfl⟩
  obtain ⟨n2, hn2⟩ : ∃ k, k = Tm.length := ⟨_, rfl⟩
  have HN := Lib.hid (show (n1 = Lm.length ∧ n1 = Ln.length) ∧ n2 = Tm.length ∧ n2 = Tn.length from ⟨⟨hn1, by rw [hn1, hl]⟩, hn2, by rw [hn2, ht]⟩)
  rw [← hl, ← ht, ← hn1, ← hn2]
  rw [← hn1] at s1
  rw [← hn2] at s2
  have q1 : ((n1 : Int) != (n1 : Int)) = false := by simp
  have q2 : ((n2 : Int) != (n2 : Int)) = false := by simp
  clear hne hl ht hn1 hn2 s4 s5
  have RA : Hid (∀ W, Below w.heap.size w W → Rds W (srow Am Lm) ∧ Rds W (srow An Ln)) := Lib.hid (fun W hb => ⟨hA.below hb, hA'.below hb⟩)
  have RB : Hid (∀ W, Below w.heap.size w W → RdS W Bm (flatT Tm) ∧ RdS W Bn (flatT Tn)) := Lib.hid (fun W hb => ⟨hB.hd.below hb, hB'.hd.below hb⟩)
  clear hA hB hA' hB'
  go_enter Try.func11, Try.ntmps11
  go_wp2
  have kb := ba2 w (.cells #[.slice Am n1 cm, .slice Bm n2 dm] 34) (.cells #[.slice An n1 cn, .slice Bn n2 dn] 34)
  obtain ⟨P_a, P_b⟩ := blocks2 w (.cells #[.slice Am n1 cm, .slice Bm n2 dm] 34) (.cells #[.slice An n1 cn, .slice Bn n2 dn] 34)
  generalize (w.alloc (.cells #[.slice Am n1 cm, .slice Bm n2 dm] 34)).alloc (.cells #[.slice An n1 cn, .slice Bn n2 dn] 34) = W1 at kb P_a P_b ⊢
  go_loopw [28] (fun i w' => ∃ k : Nat, k ≤ n1 ∧ i = .int .i64 (k : Int) ∧ sameS (Lm.drop k) (Ln.drop k) = sameS Lm Ln ∧ Below W1.heap.size W1 w') (fun i _ => n1 - (intOf i).toNat)
  case atStart => exact ⟨0, Nat.zero_le _, rfl, rfl, Below.refl _ _⟩
  case round =>
    obtain ⟨k, hk, rfl, hs, hb⟩ := hrel
    by_cases hlt : k < n1
    · obtain ⟨p, hp⟩ := getP (show k < Lm.length by rw [← HN.out.1.1]; exact hlt)
      obtain ⟨q, hq⟩ := getP (show k < Ln.length by rw [← HN.out.1.2]; exact hlt)
      have kw := bt kb hb
      have ra := RA.out _ kw
      have r1 := ra.1.tl.at hp
      have r2 := ra.2.tl.at hq
      obtain ⟨g, o, rfl, hg, c0, c1, c2, c3, c4, c5⟩ := ra.1.hd.six hp
      obtain ⟨g', o', rfl, hg', d0, d1, d2, d3, d4, d5⟩ := ra.2.hd.six hq
      have hi0 : (0 : Int) ≤ (k : Int) := by omega
      have hi1 : (k : Int) < (n1 : Int) := by omega
      have hsd := sameS_drop hp hq
      have SAME0 : ∀ W, Below wr.heap.size wr W → Calls Try.prog 23 #[.agg #[.bool p.x.p, .slice p.a.A p.x.l.length p.a.c, .slice p.a.D p.x.m.length p.a.d, .bool p.y.p, .slice p.b.A p.y.l.length p.b.c, .slice p.b.D p.y.m.length p.b.d], .agg #[.bool q.x.p, .slice q.a.A q.x.l.length q.a.c, .slice q.a.D q.x.m.length q.a.d, .bool q.y.p, .slice q.b.A q.y.l.length q.b.c, .slice q.b.D q.y.m.length q.b.d]] W (fun e w' => e = .returned (.bool (sameR p.x q.x && sameR p.y q.y)) ∧ Below W.heap.size W w') := fun W hB => spec_sameP p.x p.y q.x q.y p.a p.b q.a q.b W (s3 p (List.mem_of_getElem? hp)).1 (s3 p (List.mem_of_getElem? hp)).2 (s6 q (List.mem_of_getElem? hq)).1 (s6 q (List.mem_of_getElem? hq)).2 (r1.below hB) (r2.below hB)
      generalize (sameR p.x q.x && sameR p.y q.y) = r at SAME0 hsd
      have HSD := Lib.hid (And.intro hs hsd)
      have DD := Lib.hid (And.intro d0 (And.intro d1 (And.intro d2 (And.intro d3 (And.intro d4 d5)))))
      have HS0 := Lib.hid SAME0
      have HB := Lib.hid hb
      have HKB := Lib.hid kb
      have P_b1 := rblk_below P_b hb
      have HPB := Lib.hid P_b1
      clear hp hq hs hsd d0 d1 d2 d3 d4 d5 SAME0 r1 r2 ra P_b1 hb kb
      cases r with
      | false =>
        have HR : Hid ((sameS Lm Ln && sameT Tm Tn) = false) := Lib.hid (by rw [← HSD.out.1, HSD.out.2]; rfl)
        go_wp2_with fail
        have k3 := ba1 wr (.cells #[.bool p.x.p, .slice p.a.A p.x.l.length p.a.c, .slice p.a.D p.x.m.length p.a.d, .bool p.y.p, .slice p.b.A p.y.l.length p.b.c, .slice p.b.D p.y.m.length p.b.d] 60)
        have P_p := heap_alloc_new wr (.cells #[.bool p.x.p, .slice p.a.A p.x.l.length p.a.c, .slice p.a.D p.x.m.length p.a.d, .bool p.y.p, .slice p.b.A p.y.l.length p.b.c, .slice p.b.D p.y.m.length p.b.d] 60)
        generalize wr.alloc (.cells #[.bool p.x.p, .slice p.a.A p.x.l.length p.a.c, .slice p.a.D p.x.m.length p.a.d, .bool p.y.p, .slice p.b.A p.y.l.length p.b.c, .slice p.b.D p.y.m.length p.b.d] 60) = W2 at k3 P_p ⊢
        obtain ⟨e0, e1, e2, e3, e4, e5⟩ := DD.out
        replace e0 := below_cell k3 e0; replace e1 := below_cell k3 e1; replace e2 := below_cell k3 e2; replace e3 := below_cell k3 e3; replace e4 := below_cell k3 e4; replace e5 := below_cell k3 e5
        have P_b2 := rblk_below HPB.out k3
        have SB : Hid (∀ w', Below W2.heap.size W2 w' → (w'.cell? ⟨wr.heap.size, 0, none⟩ = some (.bool p.x.p) ∧ w'.cell? ⟨wr.heap.size, 1, none⟩ = some (.slice p.a.A p.x.l.length p.a.c) ∧ w'.cell? ⟨wr.heap.size, 2, none⟩ = some (.slice p.a.D p.x.m.length p.a.d) ∧ w'.cell? ⟨wr.heap.size, 3, none⟩ = some (.bool p.y.p) ∧ w'.cell? ⟨wr.heap.size, 4, none⟩ = some (.slice p.b.A p.y.l.length p.b.c) ∧ w'.cell? ⟨wr.heap.size, 5, none⟩ = some (.slice p.b.D p.y.m.length p.b.d) ∧ w'.cell? ⟨w.heap.size + 1, 0, none⟩ = some (.slice (some ⟨g', o', none⟩) n1 cn) ∧ w'.cell? ⟨g', o' + k * 6, none⟩ = some (.bool q.x.p) ∧ w'.cell? ⟨g', o' + k * 6 + 1, none⟩ = some (.slice q.a.A q.x.l.length q.a.c) ∧ w'.cell? ⟨g', o' + k * 6 + 2, none⟩ = some (.slice q.a.D q.x.m.length q.a.d) ∧ w'.cell? ⟨g', o' + k * 6 + 3, none⟩ = some (.bool q.y.p) ∧ w'.cell? ⟨g', o' + k * 6 + 4, none⟩ = some (.slice q.b.A q.y.l.length q.b.c) ∧ w'.cell? ⟨g', o' + k * 6 + 5, none⟩ = some (.slice q.b.D q.y.m.length q.b.d) ∧ Below W2.heap.size W2 w')) := Lib.hid (fun w' hB => ⟨rblk_cell (rblk_below P_p hB) 0, rblk_cell (rblk_below P_p hB) 1, rblk_cell (rblk_below P_p hB) 2, rblk_cell (rblk_below P_p hB) 3, rblk_cell (rblk_below P_p hB) 4, rblk_cell (rblk_below P_p hB) 5, rblk_cell (rblk_below P_b2 hB) 0, below_cell hB e0, below_cell hB e1, below_cell hB e2, below_cell hB e3, below_cell hB e4, below_cell hB e5, hB⟩)
        have SAME := Lib.hid (fun W (hB : Below W2.heap.size W2 W) => HS0.out W (bt k3 hB))
        have HK3 := Lib.hid k3
        clear k3 P_p P_b2 e0 e1 e2 e3 e4 e5 c0 c1 c2 c3 c4 c5
        go_region_held3 (fun w' => w'.cell? ⟨wr.heap.size, 0, none⟩ = some (.bool p.x.p) ∧ w'.cell? ⟨wr.heap.size, 1, none⟩ = some (.slice p.a.A p.x.l.length p.a.c) ∧ w'.cell? ⟨wr.heap.size, 2, none⟩ = some (.slice p.a.D p.x.m.length p.a.d) ∧ w'.cell? ⟨wr.heap.size, 3, none⟩ = some (.bool p.y.p) ∧ w'.cell? ⟨wr.heap.size, 4, none⟩ = some (.slice p.b.A p.y.l.length p.b.c) ∧ w'.cell? ⟨wr.heap.size, 5, none⟩ = some (.slice p.b.D p.y.m.length p.b.d) ∧ w'.cell? ⟨w.heap.size + 1, 0, none⟩ = some (.slice (some ⟨g', o', none⟩) n1 cn) ∧ w'.cell? ⟨g', o' + k * 6, none⟩ = some (.bool q.x.p) ∧ w'.cell? ⟨g', o' + k * 6 + 1, none⟩ = some (.slice q.a.A q.x.l.length q.a.c) ∧ w'.cell? ⟨g', o' + k * 6 + 2, none⟩ = some (.slice q.a.D q.x.m.length q.a.d) ∧ w'.cell? ⟨g', o' + k * 6 + 3, none⟩ = some (.bool q.y.p) ∧ w'.cell? ⟨g', o' + k * 6 + 4, none⟩ = some (.slice q.b.A q.y.l.length q.b.c) ∧ w'.cell? ⟨g', o' + k * 6 + 5, none⟩ = some (.slice q.b.D q.y.m.length q.b.d) ∧ Below W2.heap.size W2 w')
          (first | (with_reducible exact SB.out _ (Below.refl _ _)) | (with_reducible exact SB.out _ (Below.refl _ _).drew) | (go_split_ands; with_reducible exact SB.out _ (bt (by assumption : Below W2.heap.size W2 _) hb)))
          (first | (go_at_call 23; go_split_ands; ((with_reducible refine (SAME.out _ (by assumption : Below W2.heap.size W2 _)).mono ?_); rintro e w2 ⟨rfl, hb⟩; skip)))
        all_goals
          have hfin := (‹_ ∧ _ ∧ _ ∧ _ ∧ _ ∧ _ ∧ _ ∧ _ ∧ _ ∧ _ ∧ _ ∧ _ ∧ _ ∧ Below W2.heap.size W2 _›).2.2.2.2.2.2.2.2.2.2.2.2.2
          go_wp2
          go_ret
          exact ⟨by rw [HR.out]; rfl, bt HKB.out (bt HB.out (bt HK3.out hfin))⟩
      | true =>
        have HR : Hid (sameS (Lm.drop (k + 1)) (Ln.drop (k + 1)) = sameS Lm Ln) := Lib.hid (by rw [← HSD.out.1, HSD.out.2, Bool.true_and])
        go_wp2_with fail
        have k3 := ba1 wr (.cells #[.bool p.x.p, .slice p.a.A p.x.l.length p.a.c, .slice p.a.D p.x.m.length p.a.d, .bool p.y.p, .slice p.b.A p.y.l.length p.b.c, .slice p.b.D p.y.m.length p.b.d] 60)
        have P_p := heap_alloc_new wr (.cells #[.bool p.x.p, .slice p.a.A p.x.l.length p.a.c, .slice p.a.D p.x.m.length p.a.d, .bool p.y.p, .slice p.b.A p.y.l.length p.b.c, .slice p.b.D p.y.m.length p.b.d] 60)
        generalize wr.alloc (.cells #[.bool p.x.p, .slice p.a.A p.x.l.length p.a.c, .slice p.a.D p.x.m.length p.a.d, .bool p.y.p, .slice p.b.A p.y.l.length p.b.c, .slice p.b.D p.y.m.length p.b.d] 60) = W2 at k3 P_p ⊢
        obtain ⟨e0, e1, e2, e3, e4, e5⟩ := DD.out
        replace e0 := below_cell k3 e0; replace e1 := below_cell k3 e1; replace e2 := below_cell k3 e2; replace e3 := below_cell k3 e3; replace e4 := below_cell k3 e4; replace e5 := below_cell k3 e5
        have P_b2 := rblk_below HPB.out k3
        have SB : Hid (∀ w', Below W2.heap.size W2 w' → (w'.cell? ⟨wr.heap.size, 0, none⟩ = some (.bool p.x.p) ∧ w'.cell? ⟨wr.heap.size, 1, none⟩ = some (.slice p.a.A p.x.l.length p.a.c) ∧ w'.cell? ⟨wr.heap.size, 2, none⟩ = some (.slice p.a.D p.x.m.length p.a.d) ∧ w'.cell? ⟨wr.heap.size, 3, none⟩ = some (.bool p.y.p) ∧ w'.cell? ⟨wr.heap.size, 4, none⟩ = some (.slice p.b.A p.y.l.length p.b.c) ∧ w'.cell? ⟨wr.heap.size, 5, none⟩ = some (.slice p.b.D p.y.m.length p.b.d) ∧ w'.cell? ⟨w.heap.size + 1, 0, none⟩ = some (.slice (some ⟨g', o', none⟩) n1 cn) ∧ w'.cell? ⟨g', o' + k * 6, none⟩ = some (.bool q.x.p) ∧ w'.cell? ⟨g', o' + k * 6 + 1, none⟩ = some (.slice q.a.A q.x.l.length q.a.c) ∧ w'.cell? ⟨g', o' + k * 6 + 2, none⟩ = some (.slice q.a.D q.x.m.length q.a.d) ∧ w'.cell? ⟨g', o' + k * 6 + 3, none⟩ = some (.bool q.y.p) ∧ w'.cell? ⟨g', o' + k * 6 + 4, none⟩ = some (.slice q.b.A q.y.l.length q.b.c) ∧ w'.cell? ⟨g', o' + k * 6 + 5, none⟩ = some (.slice q.b.D q.y.m.length q.b.d) ∧ Below W2.heap.size W2 w')) := Lib.hid (fun w' hB => ⟨rblk_cell (rblk_below P_p hB) 0, rblk_cell (rblk_below P_p hB) 1, rblk_cell (rblk_below P_p hB) 2, rblk_cell (rblk_below P_p hB) 3, rblk_cell (rblk_below P_p hB) 4, rblk_cell (rblk_below P_p hB) 5, rblk_cell (rblk_below P_b2 hB) 0, below_cell hB e0, below_cell hB e1, below_cell hB e2, below_cell hB e3, below_cell hB e4, below_cell hB e5, hB⟩)
        have SAME := Lib.hid (fun W (hB : Below W2.heap.size W2 W) => HS0.out W (bt k3 hB))
        have HK3 := Lib.hid k3
        clear k3 P_p P_b2 e0 e1 e2 e3 e4 e5 c0 c1 c2 c3 c4 c5
        go_region_held3 (fun w' => w'.cell? ⟨wr.heap.size, 0, none⟩ = some (.bool p.x.p) ∧ w'.cell? ⟨wr.heap.size, 1, none⟩ = some (.slice p.a.A p.x.l.length p.a.c) ∧ w'.cell? ⟨wr.heap.size, 2, none⟩ = some (.slice p.a.D p.x.m.length p.a.d) ∧ w'.cell? ⟨wr.heap.size, 3, none⟩ = some (.bool p.y.p) ∧ w'.cell? ⟨wr.heap.size, 4, none⟩ = some (.slice p.b.A p.y.l.length p.b.c) ∧ w'.cell? ⟨wr.heap.size, 5, none⟩ = some (.slice p.b.D p.y.m.length p.b.d) ∧ w'.cell? ⟨w.heap.size + 1, 0, none⟩ = some (.slice (some ⟨g', o', none⟩) n1 cn) ∧ w'.cell? ⟨g', o' + k * 6, none⟩ = some (.bool q.x.p) ∧ w'.cell? ⟨g', o' + k * 6 + 1, none⟩ = some (.slice q.a.A q.x.l.length q.a.c) ∧ w'.cell? ⟨g', o' + k * 6 + 2, none⟩ = some (.slice q.a.D q.x.m.length q.a.d) ∧ w'.cell? ⟨g', o' + k * 6 + 3, none⟩ = some (.bool q.y.p) ∧ w'.cell? ⟨g', o' + k * 6 + 4, none⟩ = some (.slice q.b.A q.y.l.length q.b.c) ∧ w'.cell? ⟨g', o' + k * 6 + 5, none⟩ = some (.slice q.b.D q.y.m.length q.b.d) ∧ Below W2.heap.size W2 w')
          (first | (with_reducible exact SB.out _ (Below.refl _ _)) | (with_reducible exact SB.out _ (Below.refl _ _).drew) | (go_split_ands; with_reducible exact SB.out _ (bt (by assumption : Below W2.heap.size W2 _) hb)))
          (first | (go_at_call 23; go_split_ands; ((with_reducible refine (SAME.out _ (by assumption : Below W2.heap.size W2 _)).mono ?_); rintro e w2 ⟨rfl, hb⟩; skip)))
        all_goals
          have hfin := (‹_ ∧ _ ∧ _ ∧ _ ∧ _ ∧ _ ∧ _ ∧ _ ∧ _ ∧ _ ∧ _ ∧ _ ∧ _ ∧ Below W2.heap.size W2 _›).2.2.2.2.2.2.2.2.2.2.2.2.2
          go_wp2
          go_roundw
          case rel => exact ⟨k + 1, by omega, by go_num, HR.out, bt HB.out (bt HK3.out hfin)⟩
          case measure => simp [intOf]; omega
    · obtain rfl : k = n1 := by omega
      have HR1 : Hid (sameS Lm Ln = true) := Lib.hid (by rw [← hs, HN.out.1.1]; exact sameS_end Lm Ln (by rw [← HN.out.1.1, ← HN.out.1.2]))
      replace P_a := rblk_below P_a hb
      replace P_b := rblk_below P_b hb
      replace kb := bt kb hb
      have ca1 : wr.cell? ⟨w.heap.size, 1, none⟩ = some (.slice Bm n2 dm) := rblk_cell P_a 1
      clear hs hb
      go_wp2
      clear ca1
      obtain ⟨W4, hW4⟩ : ∃ W, W = wr := ⟨_, rfl⟩
      subst hW4
      go_loopw [45] (fun i w' => ∃ k : Nat, k ≤ n2 ∧ i = .int .i64 (k : Int) ∧ sameT (Tm.drop k) (Tn.drop k) = sameT Tm Tn ∧ Below W4.heap.size W4 w') (fun i _ => n2 - (intOf i).toNat)
      case atStart => exact ⟨0, Nat.zero_le _, rfl, rfl, Below.refl _ _⟩
      case round =>
        obtain ⟨k, hk, rfl, hs, hb⟩ := hrel
        by_cases hlt : k < n2
        · obtain ⟨p, hp⟩ := getT (show k < Tm.length by rw [← HN.out.2.1]; exact hlt)
          obtain ⟨q, hq⟩ := getT (show k < Tn.length by rw [← HN.out.2.2]; exact hlt)
          have rb := RB.out _ (bt kb hb)
          obtain ⟨g, o, rfl, hg, c0, c1, c2, c3, c4⟩ := rb.1.five hp
          obtain ⟨g', o', rfl, hg', d0, d1, d2, d3, d4⟩ := rb.2.five hq
          have hi0 : (0 : Int) ≤ (k : Int) := by omega
          have hi1 : (k : Int) < (n2 : Int) := by omega
          have hsd := sameT_drop hp hq
          have HSD := Lib.hid (And.intro hs hsd)
          have DD := Lib.hid (And.intro d0 (And.intro d1 (And.intro d2 (And.intro d3 d4))))
          have HB := Lib.hid hb
          have HKB := Lib.hid kb
          have HPB := Lib.hid (rblk_below P_b hb)
          clear hp hq hs hsd d0 d1 d2 d3 d4 rb hb kb
          cases hE : eqT p q with
          | false =>
            have HR : Hid ((sameS Lm Ln && sameT Tm Tn) = false) := Lib.hid (by rw [← HSD.out.1, HSD.out.2, hE, Bool.false_and, Bool.and_false])
            go_wp2_with fail
            have k3 := ba1 wr (.cells #[.int .i64 p.a, .int .i64 p.b, .int .i64 p.c, .int .i64 p.r, .int .i64 p.l] 63)
            have P_p := heap_alloc_new wr (.cells #[.int .i64 p.a, .int .i64 p.b, .int .i64 p.c, .int .i64 p.r, .int .i64 p.l] 63)
            generalize wr.alloc (.cells #[.int .i64 p.a, .int .i64 p.b, .int .i64 p.c, .int .i64 p.r, .int .i64 p.l] 63) = W2 at k3 P_p ⊢
            obtain ⟨e0, e1, e2, e3, e4⟩ := DD.out
            replace e0 := below_cell k3 e0; replace e1 := below_cell k3 e1; replace e2 := below_cell k3 e2; replace e3 := below_cell k3 e3; replace e4 := below_cell k3 e4
            have P_b2 := rblk_below HPB.out k3
            have SB : Hid (∀ w', Below W2.heap.size W2 w' → (w'.cell? ⟨wr.heap.size, 0, none⟩ = some (.int .i64 p.a) ∧ w'.cell? ⟨wr.heap.size, 1, none⟩ = some (.int .i64 p.b) ∧ w'.cell? ⟨wr.heap.size, 2, none⟩ = some (.int .i64 p.c) ∧ w'.cell? ⟨wr.heap.size, 3, none⟩ = some (.int .i64 p.r) ∧ w'.cell? ⟨wr.heap.size, 4, none⟩ = some (.int .i64 p.l) ∧ w'.cell? ⟨w.heap.size + 1, 1, none⟩ = some (.slice (some ⟨g', o', none⟩) n2 dn) ∧ w'.cell? ⟨g', o' + k * 5, none⟩ = some (.int .i64 q.a) ∧ w'.cell? ⟨g', o' + k * 5 + 1, none⟩ = some (.int .i64 q.b) ∧ w'.cell? ⟨g', o' + k * 5 + 2, none⟩ = some (.int .i64 q.c) ∧ w'.cell? ⟨g', o' + k * 5 + 3, none⟩ = some (.int .i64 q.r) ∧ w'.cell? ⟨g', o' + k * 5 + 4, none⟩ = some (.int .i64 q.l) ∧ Below W2.heap.size W2 w')) := Lib.hid (fun w' hB => ⟨rblk_cell (rblk_below P_p hB) 0, rblk_cell (rblk_below P_p hB) 1, rblk_cell (rblk_below P_p hB) 2, rblk_cell (rblk_below P_p hB) 3, rblk_cell (rblk_below P_p hB) 4, rblk_cell (rblk_below P_b2 hB) 1, below_cell hB e0, below_cell hB e1, below_cell hB e2, below_cell hB e3, below_cell hB e4, hB⟩)
            have HK3 := Lib.hid k3
            clear k3 P_p P_b2 e0 e1 e2 e3 e4 c0 c1 c2 c3 c4
            go_region_held3 (fun w' => w'.cell? ⟨wr.heap.size, 0, none⟩ = some (.int .i64 p.a) ∧ w'.cell? ⟨wr.heap.size, 1, none⟩ = some (.int .i64 p.b) ∧ w'.cell? ⟨wr.heap.size, 2, none⟩ = some (.int .i64 p.c) ∧ w'.cell? ⟨wr.heap.size, 3, none⟩ = some (.int .i64 p.r) ∧ w'.cell? ⟨wr.heap.size, 4, none⟩ = some (.int .i64 p.l) ∧ w'.cell? ⟨w.heap.size + 1, 1, none⟩ = some (.slice (some ⟨g', o', none⟩) n2 dn) ∧ w'.cell? ⟨g', o' + k * 5, none⟩ = some (.int .i64 q.a) ∧ w'.cell? ⟨g', o' + k * 5 + 1, none⟩ = some (.int .i64 q.b) ∧ w'.cell? ⟨g', o' + k * 5 + 2, none⟩ = some (.int .i64 q.c) ∧ w'.cell? ⟨g', o' + k * 5 + 3, none⟩ = some (.int .i64 q.r) ∧ w'.cell? ⟨g', o' + k * 5 + 4, none⟩ = some (.int .i64 q.l) ∧ Below W2.heap.size W2 w')
              (first | (with_reducible exact SB.out _ (Below.refl _ _)) | (with_reducible exact SB.out _ (Below.refl _ _).drew) | (go_split_ands; with_reducible exact SB.out _ (bt (by assumption : Below W2.heap.size W2 _) hb)))
              (first | fail)
            all_goals
              have hfin := (‹_ ∧ _ ∧ _ ∧ _ ∧ _ ∧ _ ∧ _ ∧ _ ∧ _ ∧ _ ∧ _ ∧ Below W2.heap.size W2 _›).2.2.2.2.2.2.2.2.2.2.2
              go_wp2
              go_ret
              exact ⟨by rw [HR.out]; rfl, bt HKB.out (bt HB.out (bt HK3.out hfin))⟩
          | true =>
            have HR : Hid (sameT (Tm.drop (k + 1)) (Tn.drop (k + 1)) = sameT Tm Tn) := Lib.hid (by rw [← HSD.out.1, HSD.out.2, hE, Bool.true_and])
            go_wp2_with fail
            have k3 := ba1 wr (.cells #[.int .i64 p.a, .int .i64 p.b, .int .i64 p.c, .int .i64 p.r, .int .i64 p.l] 63)
            have P_p := heap_alloc_new wr (.cells #[.int .i64 p.a, .int .i64 p.b, .int .i64 p.c, .int .i64 p.r, .int .i64 p.l] 63)
            generalize wr.alloc (.cells #[.int .i64 p.a, .int .i64 p.b, .int .i64 p.c, .int .i64 p.r, .int .i64 p.l] 63) = W2 at k3 P_p ⊢
            obtain ⟨e0, e1, e2, e3, e4⟩ := DD.out
            replace e0 := below_cell k3 e0; replace e1 := below_cell k3 e1; replace e2 := below_cell k3 e2; replace e3 := below_cell k3 e3; replace e4 := below_cell k3 e4
            have P_b2 := rblk_below HPB.out k3
            have SB : Hid (∀ w', Below W2.heap.size W2 w' → (w'.cell? ⟨wr.heap.size, 0, none⟩ = some (.int .i64 p.a) ∧ w'.cell? ⟨wr.heap.size, 1, none⟩ = some (.int .i64 p.b) ∧ w'.cell? ⟨wr.heap.size, 2, none⟩ = some (.int .i64 p.c) ∧ w'.cell? ⟨wr.heap.size, 3, none⟩ = some (.int .i64 p.r) ∧ w'.cell? ⟨wr.heap.size, 4, none⟩ = some (.int .i64 p.l) ∧ w'.cell? ⟨w.heap.size + 1, 1, none⟩ = some (.slice (some ⟨g', o', none⟩) n2 dn) ∧ w'.cell? ⟨g', o' + k * 5, none⟩ = some (.int .i64 q.a) ∧ w'.cell? ⟨g', o' + k * 5 + 1, none⟩ = some (.int .i64 q.b) ∧ w'.cell? ⟨g', o' + k * 5 + 2, none⟩ = some (.int .i64 q.c) ∧ w'.cell? ⟨g', o' + k * 5 + 3, none⟩ = some (.int .i64 q.r) ∧ w'.cell? ⟨g', o' + k * 5 + 4, none⟩ = some (.int .i64 q.l) ∧ Below W2.heap.size W2 w')) := Lib.hid (fun w' hB => ⟨rblk_cell (rblk_below P_p hB) 0, rblk_cell (rblk_below P_p hB) 1, rblk_cell (rblk_below P_p hB) 2, rblk_cell (rblk_below P_p hB) 3, rblk_cell (rblk_below P_p hB) 4, rblk_cell (rblk_below P_b2 hB) 1, below_cell hB e0, below_cell hB e1, below_cell hB e2, below_cell hB e3, below_cell hB e4, hB⟩)
            have HK3 := Lib.hid k3
            clear k3 P_p P_b2 e0 e1 e2 e3 e4 c0 c1 c2 c3 c4
            go_region_held3 (fun w' => w'.cell? ⟨wr.heap.size, 0, none⟩ = some (.int .i64 p.a) ∧ w'.cell? ⟨wr.heap.size, 1, none⟩ = some (.int .i64 p.b) ∧ w'.cell? ⟨wr.heap.size, 2, none⟩ = some (.int .i64 p.c) ∧ w'.cell? ⟨wr.heap.size, 3, none⟩ = some (.int .i64 p.r) ∧ w'.cell? ⟨wr.heap.size, 4, none⟩ = some (.int .i64 p.l) ∧ w'.cell? ⟨w.heap.size + 1, 1, none⟩ = some (.slice (some ⟨g', o', none⟩) n2 dn) ∧ w'.cell? ⟨g', o' + k * 5, none⟩ = some (.int .i64 q.a) ∧ w'.cell? ⟨g', o' + k * 5 + 1, none⟩ = some (.int .i64 q.b) ∧ w'.cell? ⟨g', o' + k * 5 + 2, none⟩ = some (.int .i64 q.c) ∧ w'.cell? ⟨g', o' + k * 5 + 3, none⟩ = some (.int .i64 q.r) ∧ w'.cell? ⟨g', o' + k * 5 + 4, none⟩ = some (.int .i64 q.l) ∧ Below W2.heap.size W2 w')
              (first | (with_reducible exact SB.out _ (Below.refl _ _)) | (with_reducible exact SB.out _ (Below.refl _ _).drew) | (go_split_ands; with_reducible exact SB.out _ (bt (by assumption : Below W2.heap.size W2 _) hb)))
              (first | fail)
            all_goals
              have hfin := (‹_ ∧ _ ∧ _ ∧ _ ∧ _ ∧ _ ∧ _ ∧ _ ∧ _ ∧ _ ∧ _ ∧ Below W2.heap.size W2 _›).2.2.2.2.2.2.2.2.2.2.2
              go_wp2
              go_roundw
              case rel => exact ⟨k + 1, by omega, by go_num, HR.out, bt HB.out (bt HK3.out hfin)⟩
              case measure => simp [intOf]; omega
        · obtain rfl : k = n2 := by omega
          have HR : Hid ((sameS Lm Ln && sameT Tm Tn) = true) := Lib.hid (by rw [HR1.out, ← hs, HN.out.2.1, sameT_end Tm Tn (by rw [← HN.out.2.1, ← HN.out.2.2])]; rfl)
          clear hs
          go_wp2
          go_ret
          exact ⟨by rw [HR.out]; rfl, bt kb hb⟩
theorem spec_sameM (m n : MV) (w : World) (hm : ShortM m) (hn : ShortM n) (hA : Rds w (srow m.A m.L)) (hB : Rds w [(m.B, flatT m.T)]) (hA' : Rds w (srow n.A n.L)) (hB' : Rds w [(n.B, flatT n.T)]) :
    Calls Try.prog 11 #[.agg #[.slice m.A m.L.length m.c, .slice m.B m.T.length m.d], .agg #[.slice n.A n.L.length n.c, .slice n.B n.T.length n.d]] w (fun e w' => e = .returned (.bool (sameM m n)) ∧ Below w.heap.size w w') :=
  spec_sameM0 m.L n.L m.A n.A m.B n.B m.T n.T m.c n.c m.d n.d w hm hn hA hB hA' hB'
end Go.Proofs.Ytoknolholccamaa
