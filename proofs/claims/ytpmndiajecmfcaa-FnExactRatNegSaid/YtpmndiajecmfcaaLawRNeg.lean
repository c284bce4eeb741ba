/-
  'FnExactRatNeg' returns true: its walk.
-/
import Derived.Test.YtpmndiajecmfcaaPkD
import Derived.Test.YtpmndiajecmfcaaPkH
import Derived.Deep.RegionHeld3
import Derived.Deep.DeepCutAuto
namespace Go.Proofs.Ytpmndiajecmfcaa
open Go.ChangeShapes Go.WideShapes Go.ChangeAt Go.RowKit
open Go.ChangeMaps (open_string shut_string)
set_option linter.unusedVariables false
set_option linter.unusedSimpArgs false
set_option maxRecDepth 4000

set_option maxHeartbeats 4000000 in
theorem law_rneg (p : Bool) (l m : List Int) (A D : Option Addr) (n c k d : Nat) (w : World) (hl0 : l.length = n) (hm0 : m.length = k) (hn0 : n ≤ 9223372036854775807) (hk0 : k ≤ 9223372036854775807) (hA0 : RdS w A (vi l)) (hD0 : RdS w D (vi m)) :
    Calls Try.prog 8 #[.agg #[.bool p, .slice A n c, .slice D k d]] w fun e w' => e = .returned (.bool true) ∧ Below w.heap.size w w' := by
  by_cases hg0 : (n : Int) + (k : Int) ≤ 1048576
  · have hj00 : n ≤ 1048576 := by omega
    have hj01 : k ≤ 1048576 := by omega
    have SZ0 := Lib.hid (fun W => szRat_yes p A D n c k d (1048576) W (by omega) (by omega) hg0)
    have hs0 : ¬ 1048576 - (n : Int) - (k : Int) < 0 := by omega
    have T0 := Lib.hid (fun W h h' => toRat_any p l m A D n c k d W hl0 hj00 h hm0 hj01 h')
    have E0 := Lib.hid (fun g g' h h' W a1 a2 a3 a4 => eqRat_same p l m (some ⟨g, 0, none⟩) (some ⟨g', 0, none⟩) (some ⟨h, 0, none⟩) (some ⟨h', 0, none⟩) n k n k n k W hl0 hm0 (by omega) (by omega) a1 a2 a3 a4)
    have M0 := Lib.hid (fun B g g' W a1 a2 a3 => markRat_any B p (vi l) (vi m) (some ⟨g, 0, none⟩) (some ⟨g', 0, none⟩) n n k k (1) W (by rw [vi_length, hl0]) (by rw [vi_length, hm0]) (by omega) (by omega) a1 a2 a3)
    have V0 : Hid ((vi l).length = n ∧ (vi m).length = k) := Lib.hid ⟨by rw [vi_length, hl0], by rw [vi_length, hm0]⟩
    have R0 : Hid (∀ W, Below w.heap.size w W → RdS W A (vi l) ∧ RdS W D (vi m)) := Lib.hid (fun W hb => ⟨hA0.below hb, hD0.below hb⟩)
    have HS := Lib.hid (fun g0 h0 W r0 s0 => spec_rneg p l m (some ⟨g0, 0, none⟩) (some ⟨h0, 0, none⟩) n k n k W hl0 hm0 hn0 hk0 (Nat.le_refl _) (Nat.le_refl _) r0 s0)
    have HI := Lib.hid (fun g0 h0 W r0 s0 => impl_rneg p l m (some ⟨g0, 0, none⟩) (some ⟨h0, 0, none⟩) n k n k W hl0 hm0 hn0 hk0 r0 s0)
    have hlen : (ql (unQ negQ (valQ p l m))).length ≤ 1048576 ∧ (qd (unQ negQ (valQ p l m))).length ≤ 1048576 := unQ_len negQ (fun r t hr h => by injection h with h; rw [← h]; exact neg_fit hr) p l m
    clear hl0 hm0 hA0 hD0
    try unfold MadeR at HS
    try unfold MadeR at HI
    generalize ql (unQ negQ (valQ p l m)) = L at HS HI hlen
    generalize qd (unQ negQ (valQ p l m)) = M at HS HI hlen
    generalize qn (unQ negQ (valQ p l m)) = s at HS HI
    obtain ⟨hlenL, hlenM⟩ := hlen
    have HE := Lib.hid (fun A D A' D' c d c' d' W a1 a2 a3 a4 => eqRat_same s L M A D A' D' L.length M.length c d c' d' W rfl rfl (by omega) (by omega) a1 a2 a3 a4)
    have HM : Hid (∀ B A c D d W, OwnS B W A (vi L) → OwnS B W D (vi M) → Apart L.length A M.length D → Calls Try.prog 28 #[.agg #[.bool s, .slice A L.length c, .slice D M.length d], .int .i64 1] W fun e w' => e = .returned (.int .i64 (mk2 L.length M.length)) ∧ OwnS B w' A (vi (marks 1 L.length)) ∧ OwnS B w' D (vi (marks (1 + (L.length : Int)) M.length)) ∧ Grown2 W w' (rowOf L.length A) (rowOf M.length D)) := Lib.hid (fun B A c D d W a1 a2 a3 => markRat_any B s (vi L) (vi M) A D L.length c M.length d 1 W (vi_length L) (vi_length M) (by omega) (by omega) a1 a2 a3)
    have HH : Hid (∀ A c D d W, RdS W A (vi (marks 1 L.length)) → RdS W D (vi (marks (1 + (L.length : Int)) M.length)) → Calls Try.prog 29 #[.agg #[.bool s, .slice A L.length c, .slice D M.length d], .int .i64 1] W fun e w' => e = .returned (.int .i64 (mk2 L.length M.length)) ∧ Below W.heap.size W w') := Lib.hid (fun A c D d W a1 a2 => heldRat_any s A D L.length c M.length d 1 W (by omega) (by omega) a1 a2)
    have VL : Hid ((vi L).length = L.length ∧ (vi M).length = M.length ∧ (vi (marks 1 L.length)).length = L.length ∧ (vi (marks (1 + (L.length : Int)) M.length)).length = M.length) := Lib.hid ⟨vi_length L, vi_length M, by rw [vi_length, marks_length], by rw [vi_length, marks_length]⟩
    have hl0 := mk2_pos L.length M.length
    have hl1 : ¬ mk2 L.length M.length < 0 := by omega
    go_enter Try.func8, Try.ntmps8
    go_wp2_with fail
    have F := Fr.nil w
    have kb := Below.refl w.heap.size w
    replace F : Fr (w.alloc (.cells #[.bool p, .slice A n c, .slice D k d] 26)) _ := F.alloc 26 [.bool p, .slice A n c, .slice D k d]
    replace kb := ba1 w (.cells #[.bool p, .slice A n c, .slice D k d] 26)
    have hzW1 : w.heap.size < (w.alloc (.cells #[.bool p, .slice A n c, .slice D k d] 26)).heap.size := by rw [sz1]; omega
    generalize w.alloc (.cells #[.bool p, .slice A n c, .slice D k d] 26) = W1 at F kb hzW1 ⊢
    refine (SZ0.out _).mono ?_
    rintro e W2 ⟨rfl, hb⟩
    replace F := F.below hb
    replace kb := bt kb hb
    have hzW2 : W1.heap.size ≤ W2.heap.size := hb.size
    clear hb
    have e_a00 := F.get 0 0 rfl rfl
    have e_a01 := F.get 0 1 rfl rfl
    have e_a02 := F.get 0 2 rfl rfl
    go_wp2_with fail
    clear e_a00 e_a01 e_a02
    refine (T0.out _ (R0.out _ kb).1 (R0.out _ kb).2).mono ?_
    rintro e W3 ⟨gw0, hw0, rfl, tqw0, trw0, -, hb⟩
    replace F := F.below hb
    replace kb := bt kb hb
    have hzW3 : W2.heap.size ≤ W3.heap.size := hb.size
    clear hb
    have in_tqw0 := tqw0.inR V0.out.1
    have in_trw0 := trw0.inR V0.out.2
    go_wp2_with fail
    refine (HS.out _ _ _ tqw0.rd trw0.rd).mono ?_
    rintro e W4 ⟨Aw0, cw0, Dw0, dw0, rfl, hcw0, hdw0, owa, owb, hap_w0, hb⟩
    replace F := F.below hb
    replace kb := bt kb hb
    replace tqw0 := tqw0.below hb
    replace trw0 := trw0.below hb
    have hzW4 : W3.heap.size ≤ W4.heap.size := hb.size
    clear hb
    have in_owa := owa.inR VL.out.1
    have in_owb := owb.inR VL.out.2.1
    clear tqw0 trw0 in_tqw0 in_trw0
    replace F : Fr (W4.alloc (.cells #[.bool s, .slice Aw0 L.length cw0, .slice Dw0 M.length dw0] 31)) _ := F.alloc 31 [.bool s, .slice Aw0 L.length cw0, .slice Dw0 M.length dw0]
    replace kb := kb.alloc kb.size (.cells #[.bool s, .slice Aw0 L.length cw0, .slice Dw0 M.length dw0] 31)
    replace owa := owa.below (ba1 W4 (.cells #[.bool s, .slice Aw0 L.length cw0, .slice Dw0 M.length dw0] 31))
    replace owb := owb.below (ba1 W4 (.cells #[.bool s, .slice Aw0 L.length cw0, .slice Dw0 M.length dw0] 31))
    have hzW5 : W4.heap.size < (W4.alloc (.cells #[.bool s, .slice Aw0 L.length cw0, .slice Dw0 M.length dw0] 31)).heap.size := by rw [sz1]; omega
    have e_a00 := F.get 1 0 rfl rfl
    have e_a01 := F.get 1 1 rfl rfl
    have e_a02 := F.get 1 2 rfl rfl
    go_wp2_with fail
    clear e_a00 e_a01 e_a02
    generalize W4.alloc (.cells #[.bool s, .slice Aw0 L.length cw0, .slice Dw0 M.length dw0] 31) = W5 at F kb hzW5 owa owb ⊢
    refine (T0.out _ (R0.out _ kb).1 (R0.out _ kb).2).mono ?_
    rintro e W6 ⟨gx0, gy0, rfl, ox0a, ox0b, ⟨mid0, ia0, ib0⟩, hb⟩
    replace F := F.below hb
    replace kb := bt kb hb
    replace owa := owa.below hb
    replace owb := owb.below hb
    have hzW6 : W5.heap.size ≤ W6.heap.size := hb.size
    clear hb
    have in_ox0a := ox0a.inR V0.out.1
    have in_ox0b := ox0b.inR V0.out.2
    have hapx0 := ia0.apart ib0 (.inl (Nat.le_refl _))
    clear ia0 ib0
    replace F : Fr (W6.alloc (.cells #[.bool p, .slice (some ⟨gx0, 0, none⟩) n n, .slice (some ⟨gy0, 0, none⟩) k k] 31)) _ := F.alloc 31 [.bool p, .slice (some ⟨gx0, 0, none⟩) n n, .slice (some ⟨gy0, 0, none⟩) k k]
    replace kb := kb.alloc kb.size (.cells #[.bool p, .slice (some ⟨gx0, 0, none⟩) n n, .slice (some ⟨gy0, 0, none⟩) k k] 31)
    replace owa := owa.below (ba1 W6 (.cells #[.bool p, .slice (some ⟨gx0, 0, none⟩) n n, .slice (some ⟨gy0, 0, none⟩) k k] 31))
    replace owb := owb.below (ba1 W6 (.cells #[.bool p, .slice (some ⟨gx0, 0, none⟩) n n, .slice (some ⟨gy0, 0, none⟩) k k] 31))
    replace ox0a := ox0a.below (ba1 W6 (.cells #[.bool p, .slice (some ⟨gx0, 0, none⟩) n n, .slice (some ⟨gy0, 0, none⟩) k k] 31))
    replace ox0b := ox0b.below (ba1 W6 (.cells #[.bool p, .slice (some ⟨gx0, 0, none⟩) n n, .slice (some ⟨gy0, 0, none⟩) k k] 31))
    have hzW7 : W6.heap.size < (W6.alloc (.cells #[.bool p, .slice (some ⟨gx0, 0, none⟩) n n, .slice (some ⟨gy0, 0, none⟩) k k] 31)).heap.size := by rw [sz1]; omega
    have e_x00 := F.get 0 0 rfl rfl
    have e_x01 := F.get 0 1 rfl rfl
    have e_x02 := F.get 0 2 rfl rfl
    go_wp2_with fail
    clear e_x00 e_x01 e_x02
    generalize W6.alloc (.cells #[.bool p, .slice (some ⟨gx0, 0, none⟩) n n, .slice (some ⟨gy0, 0, none⟩) k k] 31) = W7 at F kb hzW7 owa owb ox0a ox0b ⊢
    refine (HI.out _ _ _ ox0a.rd ox0b.rd).mono ?_
    rintro e W8 ⟨Ag0, cg0, Dg0, dg0, rfl, hcg0, hdg0, oga, ogb, hap_g0, hb⟩
    replace F := F.below hb
    replace kb := bt kb hb
    replace owa := owa.below hb
    replace owb := owb.below hb
    replace ox0a := ox0a.below hb
    replace ox0b := ox0b.below hb
    have hzW8 : W7.heap.size ≤ W8.heap.size := hb.size
    clear hb
    have in_oga := oga.inR VL.out.1
    have in_ogb := ogb.inR VL.out.2.1
    replace F : Fr (W8.alloc (.cells #[.bool s, .slice Ag0 L.length cg0, .slice Dg0 M.length dg0] 31)) _ := F.alloc 31 [.bool s, .slice Ag0 L.length cg0, .slice Dg0 M.length dg0]
    replace kb := kb.alloc kb.size (.cells #[.bool s, .slice Ag0 L.length cg0, .slice Dg0 M.length dg0] 31)
    replace owa := owa.below (ba1 W8 (.cells #[.bool s, .slice Ag0 L.length cg0, .slice Dg0 M.length dg0] 31))
    replace owb := owb.below (ba1 W8 (.cells #[.bool s, .slice Ag0 L.length cg0, .slice Dg0 M.length dg0] 31))
    replace ox0a := ox0a.below (ba1 W8 (.cells #[.bool s, .slice Ag0 L.length cg0, .slice Dg0 M.length dg0] 31))
    replace ox0b := ox0b.below (ba1 W8 (.cells #[.bool s, .slice Ag0 L.length cg0, .slice Dg0 M.length dg0] 31))
    replace oga := oga.below (ba1 W8 (.cells #[.bool s, .slice Ag0 L.length cg0, .slice Dg0 M.length dg0] 31))
    replace ogb := ogb.below (ba1 W8 (.cells #[.bool s, .slice Ag0 L.length cg0, .slice Dg0 M.length dg0] 31))
    have hzW9 : W8.heap.size < (W8.alloc (.cells #[.bool s, .slice Ag0 L.length cg0, .slice Dg0 M.length dg0] 31)).heap.size := by rw [sz1]; omega
    have e_g00 := F.get 0 0 rfl rfl
    have e_g01 := F.get 0 1 rfl rfl
    have e_g02 := F.get 0 2 rfl rfl
    have e_w00 := F.get 2 0 rfl rfl
    have e_w01 := F.get 2 1 rfl rfl
    have e_w02 := F.get 2 2 rfl rfl
    go_wp2_with fail
    clear e_g00 e_g01 e_g02 e_w00 e_w01 e_w02
    generalize W8.alloc (.cells #[.bool s, .slice Ag0 L.length cg0, .slice Dg0 M.length dg0] 31) = W9 at F kb hzW9 owa owb ox0a ox0b oga ogb ⊢
    refine (HE.out _ _ _ _ _ _ _ _ _ oga.rd ogb.rd owa.rd owb.rd).mono ?_
    rintro e W10 ⟨rfl, hb⟩
    replace F := F.below hb
    replace kb := bt kb hb
    replace owa := owa.below hb
    replace owb := owb.below hb
    replace ox0a := ox0a.below hb
    replace ox0b := ox0b.below hb
    replace oga := oga.below hb
    replace ogb := ogb.below hb
    have hzW10 : W9.heap.size ≤ W10.heap.size := hb.size
    clear hb
    go_wp2_with fail
    have e_x00 := F.get 1 0 rfl rfl
    have e_x01 := F.get 1 1 rfl rfl
    have e_x02 := F.get 1 2 rfl rfl
    have e_a00 := F.get 3 0 rfl rfl
    have e_a01 := F.get 3 1 rfl rfl
    have e_a02 := F.get 3 2 rfl rfl
    have SB : Hid (∀ w', Below W10.heap.size W10 w' → (w'.cell? ⟨W6.heap.size, 0, none⟩ = some (.bool p) ∧ w'.cell? ⟨W6.heap.size, 1, none⟩ = some (.slice (some ⟨gx0, 0, none⟩) n n) ∧ w'.cell? ⟨W6.heap.size, 2, none⟩ = some (.slice (some ⟨gy0, 0, none⟩) k k) ∧ w'.cell? ⟨w.heap.size, 0, none⟩ = some (.bool p) ∧ w'.cell? ⟨w.heap.size, 1, none⟩ = some (.slice A n c) ∧ w'.cell? ⟨w.heap.size, 2, none⟩ = some (.slice D k d) ∧ Below W10.heap.size W10 w')) := Lib.hid (fun w' hB => ⟨cell_kept e_x00 hB, cell_kept e_x01 hB, cell_kept e_x02 hB, cell_kept e_a00 hB, cell_kept e_a01 hB, cell_kept e_a02 hB, hB⟩)
    have kr := kb
    go_region_held3 (fun w' => w'.cell? ⟨W6.heap.size, 0, none⟩ = some (.bool p) ∧ w'.cell? ⟨W6.heap.size, 1, none⟩ = some (.slice (some ⟨gx0, 0, none⟩) n n) ∧ w'.cell? ⟨W6.heap.size, 2, none⟩ = some (.slice (some ⟨gy0, 0, none⟩) k k) ∧ w'.cell? ⟨w.heap.size, 0, none⟩ = some (.bool p) ∧ w'.cell? ⟨w.heap.size, 1, none⟩ = some (.slice A n c) ∧ w'.cell? ⟨w.heap.size, 2, none⟩ = some (.slice D k d) ∧ Below W10.heap.size W10 w')
      (first | (exact SB.out _ (Below.refl _ _).drew) | (exact SB.out _ (Below.refl _ _)) | (go_split_ands; exact SB.out _ (bt (by assumption : Below W10.heap.size W10 _) hb)))
      (first | (go_at_call 19; go_split_ands; ((with_reducible refine (T0.out _ (R0.out _ (bt kr (by assumption : Below W10.heap.size W10 _))).1 (R0.out _ (bt kr (by assumption : Below W10.heap.size W10 _))).2).mono ?_); rintro e Wa ⟨ga, gb, rfl, owna, ownb, -, hb⟩)) | (go_at_call 21; go_split_ands; ((with_reducible refine (E0.out _ _ _ _ _ (ox0a.below (by assumption : Below W10.heap.size W10 _)).rd (ox0b.below (by assumption : Below W10.heap.size W10 _)).rd owna.rd ownb.rd).mono ?_); rintro e W11 ⟨rfl, hb⟩; have KB := bt (by assumption : Below W10.heap.size W10 _) hb)))
    clear e_x00 e_x01 e_x02 e_a00 e_a01 e_a02
    replace F := F.below KB
    replace kb := bt kb KB
    replace owa := owa.below KB
    replace owb := owb.below KB
    replace ox0a := ox0a.below KB
    replace ox0b := ox0b.below KB
    replace oga := oga.below KB
    replace ogb := ogb.below KB
    have hzW11 : W10.heap.size ≤ W11.heap.size := KB.size
    clear KB kr SB owna ownb
    try clear ‹_ ∧ _›
    have e_x00 := F.get 1 0 rfl rfl
    have e_x01 := F.get 1 1 rfl rfl
    have e_x02 := F.get 1 2 rfl rfl
    go_wp2_with fail
    clear e_x00 e_x01 e_x02
    refine (M0.out _ _ _ _ ox0a ox0b hapx0).mono ?_
    rintro e W12 ⟨rfl, ox0aq, ox0bq, ⟨WmW12, hgr0, hgr1⟩⟩
    replace F := F.grownR in_ox0a hgr0 (by intro x hx; simp only [List.mem_cons, List.not_mem_nil, or_false] at hx; rcases hx with rfl | rfl | rfl | rfl <;> (dsimp only; omega))
    replace kb := below_grownR kb in_ox0a hgr0 (by omega)
    replace owa := owa.apartR VL.out.1 in_owa in_ox0a hgr0 (by omega)
    replace owb := owb.apartR VL.out.2.1 in_owb in_ox0a hgr0 (by omega)
    replace oga := oga.apartR VL.out.1 in_oga in_ox0a hgr0 (by omega)
    replace ogb := ogb.apartR VL.out.2.1 in_ogb in_ox0a hgr0 (by omega)
    replace F := F.grownR in_ox0b hgr1 (by intro x hx; simp only [List.mem_cons, List.not_mem_nil, or_false] at hx; rcases hx with rfl | rfl | rfl | rfl <;> (dsimp only; omega))
    replace kb := below_grownR kb in_ox0b hgr1 (by omega)
    replace owa := owa.apartR VL.out.1 in_owa in_ox0b hgr1 (by omega)
    replace owb := owb.apartR VL.out.2.1 in_owb in_ox0b hgr1 (by omega)
    replace oga := oga.apartR VL.out.1 in_oga in_ox0b hgr1 (by omega)
    replace ogb := ogb.apartR VL.out.2.1 in_ogb in_ox0b hgr1 (by omega)
    have hzW12 : W11.heap.size ≤ W12.heap.size := Nat.le_trans hgr0.size hgr1.size
    clear hgr0 hgr1
    clear ox0a ox0aq in_ox0a
    clear ox0b ox0bq in_ox0b
    have hkp : ¬ (1 + (n : Int) + (k : Int)) < 0 := by omega
    have e_g00 := F.get 0 0 rfl rfl
    have e_g01 := F.get 0 1 rfl rfl
    have e_g02 := F.get 0 2 rfl rfl
    have e_w00 := F.get 2 0 rfl rfl
    have e_w01 := F.get 2 1 rfl rfl
    have e_w02 := F.get 2 2 rfl rfl
    go_wp2_with fail
    clear e_g00 e_g01 e_g02 e_w00 e_w01 e_w02
    refine (HE.out _ _ _ _ _ _ _ _ _ oga.rd ogb.rd owa.rd owb.rd).mono ?_
    rintro e W13 ⟨rfl, hb⟩
    replace F := F.below hb
    replace kb := bt kb hb
    replace owa := owa.below hb
    replace owb := owb.below hb
    replace oga := oga.below hb
    replace ogb := ogb.below hb
    have hzW13 : W12.heap.size ≤ W13.heap.size := hb.size
    clear hb
    have e_g00 := F.get 0 0 rfl rfl
    have e_g01 := F.get 0 1 rfl rfl
    have e_g02 := F.get 0 2 rfl rfl
    go_wp2_with fail
    clear e_g00 e_g01 e_g02
    refine (HM.out _ _ _ _ _ _ oga ogb hap_g0).mono ?_
    rintro e W14 ⟨rfl, ogaq, ogbq, ⟨WmW14, hgr0, hgr1⟩⟩
    replace F := F.grownR in_oga hgr0 (by intro x hx; simp only [List.mem_cons, List.not_mem_nil, or_false] at hx; rcases hx with rfl | rfl | rfl | rfl <;> (dsimp only; omega))
    replace kb := below_grownR kb in_oga hgr0 (by omega)
    replace owa := owa.apartR VL.out.1 in_owa in_oga hgr0 (by omega)
    replace owb := owb.apartR VL.out.2.1 in_owb in_oga hgr0 (by omega)
    replace F := F.grownR in_ogb hgr1 (by intro x hx; simp only [List.mem_cons, List.not_mem_nil, or_false] at hx; rcases hx with rfl | rfl | rfl | rfl <;> (dsimp only; omega))
    replace kb := below_grownR kb in_ogb hgr1 (by omega)
    replace owa := owa.apartR VL.out.1 in_owa in_ogb hgr1 (by omega)
    replace owb := owb.apartR VL.out.2.1 in_owb in_ogb hgr1 (by omega)
    have hzW14 : W13.heap.size ≤ W14.heap.size := Nat.le_trans hgr0.size hgr1.size
    clear hgr0 hgr1
    clear oga
    have oga := ogaq
    clear ogaq
    clear ogb
    have ogb := ogbq
    clear ogbq
    have e_g00 := F.get 0 0 rfl rfl
    have e_g01 := F.get 0 1 rfl rfl
    have e_g02 := F.get 0 2 rfl rfl
    go_wp2_with fail
    clear e_g00 e_g01 e_g02
    refine (HH.out _ _ _ _ _ oga.rd ogb.rd).mono ?_
    rintro e W15 ⟨rfl, hb⟩
    replace F := F.below hb
    replace kb := bt kb hb
    replace owa := owa.below hb
    replace owb := owb.below hb
    replace oga := oga.below hb
    replace ogb := ogb.below hb
    have hzW15 : W14.heap.size ≤ W15.heap.size := hb.size
    clear hb
    have e_a00 := F.get 3 0 rfl rfl
    have e_a01 := F.get 3 1 rfl rfl
    have e_a02 := F.get 3 2 rfl rfl
    go_wp2_with fail
    clear e_a00 e_a01 e_a02
    refine (T0.out _ (R0.out _ kb).1 (R0.out _ kb).2).mono ?_
    rintro e W16 ⟨gh0, hh0, rfl, tqh0, trh0, -, hb⟩
    replace F := F.below hb
    replace kb := bt kb hb
    replace owa := owa.below hb
    replace owb := owb.below hb
    replace oga := oga.below hb
    replace ogb := ogb.below hb
    have hzW16 : W15.heap.size ≤ W16.heap.size := hb.size
    clear hb
    have in_tqh0 := tqh0.inR V0.out.1
    have in_trh0 := trh0.inR V0.out.2
    go_wp2_with fail
    refine (HI.out _ _ _ tqh0.rd trh0.rd).mono ?_
    rintro e W17 ⟨Ah0, ch0, Dh0, dh0, rfl, hch0, hdh0, oha, ohb, hap_h0, hb⟩
    replace F := F.below hb
    replace kb := bt kb hb
    replace owa := owa.below hb
    replace owb := owb.below hb
    replace oga := oga.below hb
    replace ogb := ogb.below hb
    replace tqh0 := tqh0.below hb
    replace trh0 := trh0.below hb
    have hzW17 : W16.heap.size ≤ W17.heap.size := hb.size
    clear hb
    have in_oha := oha.inR VL.out.1
    have in_ohb := ohb.inR VL.out.2.1
    clear tqh0 trh0 in_tqh0 in_trh0
    replace F : Fr (W17.alloc (.cells #[.bool s, .slice Ah0 L.length ch0, .slice Dh0 M.length dh0] 31)) _ := F.alloc 31 [.bool s, .slice Ah0 L.length ch0, .slice Dh0 M.length dh0]
    replace kb := kb.alloc kb.size (.cells #[.bool s, .slice Ah0 L.length ch0, .slice Dh0 M.length dh0] 31)
    replace owa := owa.below (ba1 W17 (.cells #[.bool s, .slice Ah0 L.length ch0, .slice Dh0 M.length dh0] 31))
    replace owb := owb.below (ba1 W17 (.cells #[.bool s, .slice Ah0 L.length ch0, .slice Dh0 M.length dh0] 31))
    replace oga := oga.below (ba1 W17 (.cells #[.bool s, .slice Ah0 L.length ch0, .slice Dh0 M.length dh0] 31))
    replace ogb := ogb.below (ba1 W17 (.cells #[.bool s, .slice Ah0 L.length ch0, .slice Dh0 M.length dh0] 31))
    replace oha := oha.below (ba1 W17 (.cells #[.bool s, .slice Ah0 L.length ch0, .slice Dh0 M.length dh0] 31))
    replace ohb := ohb.below (ba1 W17 (.cells #[.bool s, .slice Ah0 L.length ch0, .slice Dh0 M.length dh0] 31))
    have hzW18 : W17.heap.size < (W17.alloc (.cells #[.bool s, .slice Ah0 L.length ch0, .slice Dh0 M.length dh0] 31)).heap.size := by rw [sz1]; omega
    have e_h00 := F.get 0 0 rfl rfl
    have e_h01 := F.get 0 1 rfl rfl
    have e_h02 := F.get 0 2 rfl rfl
    have e_w00 := F.get 3 0 rfl rfl
    have e_w01 := F.get 3 1 rfl rfl
    have e_w02 := F.get 3 2 rfl rfl
    go_wp2_with fail
    clear e_h00 e_h01 e_h02 e_w00 e_w01 e_w02
    generalize W17.alloc (.cells #[.bool s, .slice Ah0 L.length ch0, .slice Dh0 M.length dh0] 31) = W18 at F kb hzW18 owa owb oga ogb oha ohb ⊢
    refine (HE.out _ _ _ _ _ _ _ _ _ oha.rd ohb.rd owa.rd owb.rd).mono ?_
    rintro e W19 ⟨rfl, hb⟩
    replace F := F.below hb
    replace kb := bt kb hb
    replace owa := owa.below hb
    replace owb := owb.below hb
    replace oga := oga.below hb
    replace ogb := ogb.below hb
    replace oha := oha.below hb
    replace ohb := ohb.below hb
    have hzW19 : W18.heap.size ≤ W19.heap.size := hb.size
    clear hb
    have e_g00 := F.get 1 0 rfl rfl
    have e_g01 := F.get 1 1 rfl rfl
    have e_g02 := F.get 1 2 rfl rfl
    go_wp2_with fail
    clear e_g00 e_g01 e_g02
    refine (HH.out _ _ _ _ _ oga.rd ogb.rd).mono ?_
    rintro e W20 ⟨rfl, hb⟩
    replace F := F.below hb
    replace kb := bt kb hb
    replace owa := owa.below hb
    replace owb := owb.below hb
    replace oga := oga.below hb
    replace ogb := ogb.below hb
    replace oha := oha.below hb
    replace ohb := ohb.below hb
    have hzW20 : W19.heap.size ≤ W20.heap.size := hb.size
    clear hb
    go_wp2
    go_ret
    exact ⟨rfl, kb⟩
  · have SZ := Lib.hid (fun W => szRat_no p A D n c k d (1048576) W (by omega) (by omega) hn0 hk0 hg0)
    clear hg0 hl0 hm0 hA0 hD0
    go_enter Try.func8, Try.ntmps8
    go_wp2_with fail
    refine (SZ.out _).mono ?_
    rintro e W2 ⟨rfl, hb⟩
    have kb := (ba1 _ _ ).trans (hb.mono (by rw [sz1]; omega))
    go_wp2
    go_ret
    exact ⟨rfl, kb⟩
end Go.Proofs.Ytpmndiajecmfcaa
