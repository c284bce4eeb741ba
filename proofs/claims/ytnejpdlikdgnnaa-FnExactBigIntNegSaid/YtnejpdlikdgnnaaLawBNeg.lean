/-
  'FnExactBigIntNeg' returns true: its walk.
-/
import Derived.Test.YtnejpdlikdgnnaaFrame
import Derived.Test.YtnejpdlikdgnnaaLawBOk
import Derived.Test.YtnejpdlikdgnnaaBigT
import Derived.Deep.RegionHeld3
namespace Go.Proofs.Ytnejpdlikdgnnaa
open Go.ChangeShapes Go.WideShapes Go.ChangeAt Go.RowKit
open Go.ChangeMaps (open_string shut_string)
set_option linter.unusedVariables false
set_option linter.unusedSimpArgs false
set_option maxRecDepth 4000

set_option maxHeartbeats 2000000 in
theorem law_bneg (p : Bool) (l : List Int) (A : Option Addr) (n c : Nat) (w : World) (hl0 : l.length = n) (hn0 : n ≤ 9223372036854775807) (hA0 : RdS w A (vi l)) :
    Calls Try.prog 6 #[.agg #[.bool p, .slice A n c]] w fun e w' => e = .returned (.bool true) ∧ Below w.heap.size w w' := by
  by_cases hg0 : (n : Int) ≤ 1048576
  · have hk0 : n ≤ 1048576 := by omega
    have SZ0 := Lib.hid (fun W => szBig_yes p A n c 1048576 W (by omega) (by omega) hg0)
    have hs0 : ¬ 1048576 - (n : Int) < 0 := by omega
    have T0 := Lib.hid (fun W h => toBig_any p l A n c W hl0 hk0 h)
    have E0 := Lib.hid (fun g g' W h h' => eqBig_same p l (some ⟨g, 0, none⟩) (some ⟨g', 0, none⟩) n n n W hl0 (by omega) h h')
    have M0 := Lib.hid (fun B g W h => markBig_any B p (vi l) (some ⟨g, 0, none⟩) n n 1 W (by rw [vi_length, hl0]) (by omega) (by omega) h)
    have V0 : Hid ((vi l).length = n) := Lib.hid (by rw [vi_length, hl0])
    have R0 : Hid (∀ W, Below w.heap.size w W → RdS W A (vi l)) := Lib.hid (fun W hb => hA0.below hb)
    have HS := Lib.hid (fun g W h => spec_bneg p l (some ⟨g, 0, none⟩) n n W hl0 hn0 (Nat.le_refl _) h)
    have HI := Lib.hid (fun g W h => impl_bneg p l (some ⟨g, 0, none⟩) n n W hl0 hn0 h)
    have hlen : (zm (unZ (fun x => czi (-x)) p l)).length ≤ 1048576 := unZ_len (fun x => -x) p l
    clear hl0 hA0
    unfold MadeZ at HS HI
    generalize zm (unZ (fun x => czi (-x)) p l) = L at HS HI hlen
    generalize zn (unZ (fun x => czi (-x)) p l) = s at HS HI
    have HE := Lib.hid (fun A D c d W h h' => eqBig_same s L A D L.length c d W rfl (by omega) h h')
    have HM : Hid (∀ B A c W, OwnS B W A (vi L) → Calls Try.prog 19 #[.agg #[.bool s, .slice A L.length c], .int .i64 1] W fun e w' => e = .returned (.int .i64 (mk1 L.length)) ∧ OwnS B w' A (vi (marks 1 L.length)) ∧ W.grownBy w' (rowOf L.length A)) := Lib.hid (fun B A c W h => markBig_any B s (vi L) A L.length c 1 W (vi_length L) (by omega) (by omega) h)
    have HH : Hid (∀ A c W, RdS W A (vi (marks 1 L.length)) → Calls Try.prog 20 #[.agg #[.bool s, .slice A L.length c], .int .i64 1] W fun e w' => e = .returned (.int .i64 (mk1 L.length)) ∧ Below W.heap.size W w') := Lib.hid (fun A c W h => heldBig_any s A L.length c 1 W (by omega) (by omega) h)
    have VL : Hid ((vi L).length = L.length ∧ (vi (marks 1 L.length)).length = L.length) := Lib.hid ⟨vi_length L, by rw [vi_length, marks_length]⟩
    have hl0 := mk1_pos L.length
    have hl1 : ¬ mk1 L.length < 0 := by omega
    go_enter Try.func6, Try.ntmps6
    go_wp2_with fail
    have F := Fr.nil w
    have kb := Below.refl w.heap.size w
    replace F : Fr (w.alloc (.cells #[.bool p, .slice A n c] 24)) _ := F.alloc 24 [.bool p, .slice A n c]
    replace kb := kb.alloc kb.size (.cells #[.bool p, .slice A n c] 24)
    have hzW1 : w.heap.size < (w.alloc (.cells #[.bool p, .slice A n c] 24)).heap.size := by rw [sz1]; omega
    generalize w.alloc (.cells #[.bool p, .slice A n c] 24) = W1 at F kb hzW1  ⊢
    refine (SZ0.out _).mono ?_
    rintro e W2 ⟨rfl, hb⟩
    replace F := F.below hb
    replace kb := bt kb hb
    have hzW2 : W1.heap.size ≤ W2.heap.size := hb.size
    clear hb
    have e_a00 := F.get 0 0 rfl rfl
    have e_a01 := F.get 0 1 rfl rfl
    go_wp2_with fail
    clear e_a00 e_a01
    refine (T0.out _ (R0.out _ kb)).mono ?_
    rintro e W3 ⟨gw0, rfl, tqw0, hb⟩
    replace F := F.below hb
    replace kb := bt kb hb
    have hzW3 : W2.heap.size ≤ W3.heap.size := hb.size
    clear hb
    have in_tqw0 := tqw0.inR V0.out
    go_wp2_with fail
    refine (HS.out _ _ tqw0.rd).mono ?_
    rintro e W4 ⟨Aw0, cw0, rfl, hcw0, ow0, hb⟩
    replace F := F.below hb
    replace kb := bt kb hb
    replace tqw0 := tqw0.below hb
    have hzW4 : W3.heap.size ≤ W4.heap.size := hb.size
    clear hb
    have in_ow0 := ow0.inR VL.out.1
    clear tqw0 in_tqw0
    replace F : Fr (W4.alloc (.cells #[.bool s, .slice Aw0 L.length cw0] 27)) _ := F.alloc 27 [.bool s, .slice Aw0 L.length cw0]
    replace kb := kb.alloc kb.size (.cells #[.bool s, .slice Aw0 L.length cw0] 27)
    replace ow0 := ow0.below (ba1 W4 (.cells #[.bool s, .slice Aw0 L.length cw0] 27))
    have hzW5 : W4.heap.size < (W4.alloc (.cells #[.bool s, .slice Aw0 L.length cw0] 27)).heap.size := by rw [sz1]; omega
    have e_a00 := F.get 1 0 rfl rfl
    have e_a01 := F.get 1 1 rfl rfl
    go_wp2_with fail
    clear e_a00 e_a01
    generalize W4.alloc (.cells #[.bool s, .slice Aw0 L.length cw0] 27) = W5 at F kb hzW5 ow0 ⊢
    refine (T0.out _ (R0.out _ kb)).mono ?_
    rintro e W6 ⟨gx0, rfl, ox0, hb⟩
    replace F := F.below hb
    replace kb := bt kb hb
    replace ow0 := ow0.below hb
    have hzW6 : W5.heap.size ≤ W6.heap.size := hb.size
    clear hb
    have in_ox0 := ox0.inR V0.out
    replace F : Fr (W6.alloc (.cells #[.bool p, .slice (some ⟨gx0, 0, none⟩) n n] 27)) _ := F.alloc 27 [.bool p, .slice (some ⟨gx0, 0, none⟩) n n]
    replace kb := kb.alloc kb.size (.cells #[.bool p, .slice (some ⟨gx0, 0, none⟩) n n] 27)
    replace ow0 := ow0.below (ba1 W6 (.cells #[.bool p, .slice (some ⟨gx0, 0, none⟩) n n] 27))
    replace ox0 := ox0.below (ba1 W6 (.cells #[.bool p, .slice (some ⟨gx0, 0, none⟩) n n] 27))
    have hzW7 : W6.heap.size < (W6.alloc (.cells #[.bool p, .slice (some ⟨gx0, 0, none⟩) n n] 27)).heap.size := by rw [sz1]; omega
    have e_x00 := F.get 0 0 rfl rfl
    have e_x01 := F.get 0 1 rfl rfl
    go_wp2_with fail
    clear e_x00 e_x01
    generalize W6.alloc (.cells #[.bool p, .slice (some ⟨gx0, 0, none⟩) n n] 27) = W7 at F kb hzW7 ow0 ox0 ⊢
    refine (HI.out _ _ ox0.rd).mono ?_
    rintro e W8 ⟨Ag0, cg0, rfl, hcg0, og0, hb⟩
    replace F := F.below hb
    replace kb := bt kb hb
    replace ow0 := ow0.below hb
    replace ox0 := ox0.below hb
    have hzW8 : W7.heap.size ≤ W8.heap.size := hb.size
    clear hb
    have in_og0 := og0.inR VL.out.1
    replace F : Fr (W8.alloc (.cells #[.bool s, .slice Ag0 L.length cg0] 27)) _ := F.alloc 27 [.bool s, .slice Ag0 L.length cg0]
    replace kb := kb.alloc kb.size (.cells #[.bool s, .slice Ag0 L.length cg0] 27)
    replace ow0 := ow0.below (ba1 W8 (.cells #[.bool s, .slice Ag0 L.length cg0] 27))
    replace ox0 := ox0.below (ba1 W8 (.cells #[.bool s, .slice Ag0 L.length cg0] 27))
    replace og0 := og0.below (ba1 W8 (.cells #[.bool s, .slice Ag0 L.length cg0] 27))
    have hzW9 : W8.heap.size < (W8.alloc (.cells #[.bool s, .slice Ag0 L.length cg0] 27)).heap.size := by rw [sz1]; omega
    have e_g00 := F.get 0 0 rfl rfl
    have e_g01 := F.get 0 1 rfl rfl
    have e_w00 := F.get 2 0 rfl rfl
    have e_w01 := F.get 2 1 rfl rfl
    go_wp2_with fail
    clear e_g00 e_g01 e_w00 e_w01
    generalize W8.alloc (.cells #[.bool s, .slice Ag0 L.length cg0] 27) = W9 at F kb hzW9 ow0 ox0 og0 ⊢
    refine (HE.out _ _ _ _ _ og0.rd ow0.rd).mono ?_
    rintro e W10 ⟨rfl, hb⟩
    replace F := F.below hb
    replace kb := bt kb hb
    replace ow0 := ow0.below hb
    replace ox0 := ox0.below hb
    replace og0 := og0.below hb
    have hzW10 : W9.heap.size ≤ W10.heap.size := hb.size
    clear hb
    go_wp2_with fail
    have e_x00 := F.get 1 0 rfl rfl
    have e_x01 := F.get 1 1 rfl rfl
    have e_a00 := F.get 3 0 rfl rfl
    have e_a01 := F.get 3 1 rfl rfl
    have kr := kb
    go_region_held3 (fun w' => w'.cell? ⟨W6.heap.size, 0, none⟩ = some (.bool p) ∧ w'.cell? ⟨W6.heap.size, 1, none⟩ = some (.slice (some ⟨gx0, 0, none⟩) n n) ∧ w'.cell? ⟨w.heap.size, 0, none⟩ = some (.bool p) ∧ w'.cell? ⟨w.heap.size, 1, none⟩ = some (.slice A n c) ∧ Below W10.heap.size W10 w')
      (first | (exact ⟨e_x00, e_x01, e_a00, e_a01, (Below.refl _ _).drew⟩) | (go_split_ands; exact heldF (by assumption) (by assumption) (by assumption) (by assumption) (by assumption) hb))
      (first | (go_at_call 14; go_split_ands; ((with_reducible refine (T0.out _ (R0.out _ (bt kr (by assumption)))).mono ?_); rintro e Wa ⟨ga, rfl, owna, hb⟩)) | (go_at_call 16; go_split_ands; ((with_reducible refine (E0.out _ _ _ (ox0.below (by assumption)).rd owna.rd).mono ?_); rintro e W11 ⟨rfl, hb⟩; have KB := bt (by assumption : Below W10.heap.size W10 _) hb)))
    clear e_x00 e_x01 e_a00 e_a01
    replace F := F.below KB
    replace kb := bt kb KB
    replace ow0 := ow0.below KB
    replace ox0 := ox0.below KB
    replace og0 := og0.below KB
    have hzW11 : W10.heap.size ≤ W11.heap.size := KB.size
    clear KB owna kr
    try clear ‹_ ∧ _›
    have e_x00 := F.get 1 0 rfl rfl
    have e_x01 := F.get 1 1 rfl rfl
    go_wp2_with fail
    clear e_x00 e_x01
    refine (M0.out _ _ _ ox0).mono ?_
    rintro e W12 ⟨rfl, ox0q, hgr⟩
    replace F := F.grownR in_ox0 hgr (by intro x hx; simp only [List.mem_cons, List.not_mem_nil, or_false] at hx; rcases hx with rfl | rfl | rfl | rfl <;> (dsimp only; omega))
    replace kb := below_grownR kb in_ox0 hgr (by omega)
    replace ow0 := ow0.apartR VL.out.1 in_ow0 in_ox0 hgr (by omega)
    replace og0 := og0.apartR VL.out.1 in_og0 in_ox0 hgr (by omega)
    have hzW12 : W11.heap.size ≤ W12.heap.size := hgr.size
    clear hgr
    clear ox0 ox0q in_ox0
    have hkp : ¬ (1 + (n : Int)) < 0 := by omega
    have e_g00 := F.get 0 0 rfl rfl
    have e_g01 := F.get 0 1 rfl rfl
    have e_w00 := F.get 2 0 rfl rfl
    have e_w01 := F.get 2 1 rfl rfl
    go_wp2_with fail
    clear e_g00 e_g01 e_w00 e_w01
    refine (HE.out _ _ _ _ _ og0.rd ow0.rd).mono ?_
    rintro e W13 ⟨rfl, hb⟩
    replace F := F.below hb
    replace kb := bt kb hb
    replace ow0 := ow0.below hb
    replace og0 := og0.below hb
    have hzW13 : W12.heap.size ≤ W13.heap.size := hb.size
    clear hb
    have e_g00 := F.get 0 0 rfl rfl
    have e_g01 := F.get 0 1 rfl rfl
    go_wp2_with fail
    clear e_g00 e_g01
    refine (HM.out _ _ _ _ og0).mono ?_
    rintro e W14 ⟨rfl, og0q, hgr⟩
    replace F := F.grownR in_og0 hgr (by intro x hx; simp only [List.mem_cons, List.not_mem_nil, or_false] at hx; rcases hx with rfl | rfl | rfl | rfl <;> (dsimp only; omega))
    replace kb := below_grownR kb in_og0 hgr (by omega)
    replace ow0 := ow0.apartR VL.out.1 in_ow0 in_og0 hgr (by omega)
    have hzW14 : W13.heap.size ≤ W14.heap.size := hgr.size
    clear hgr
    clear og0
    have og0 := og0q
    clear og0q
    have e_g00 := F.get 0 0 rfl rfl
    have e_g01 := F.get 0 1 rfl rfl
    go_wp2_with fail
    clear e_g00 e_g01
    refine (HH.out _ _ _ og0.rd).mono ?_
    rintro e W15 ⟨rfl, hb⟩
    replace F := F.below hb
    replace kb := bt kb hb
    replace ow0 := ow0.below hb
    replace og0 := og0.below hb
    have hzW15 : W14.heap.size ≤ W15.heap.size := hb.size
    clear hb
    have e_a00 := F.get 3 0 rfl rfl
    have e_a01 := F.get 3 1 rfl rfl
    go_wp2_with fail
    clear e_a00 e_a01
    refine (T0.out _ (R0.out _ kb)).mono ?_
    rintro e W16 ⟨gh0, rfl, tqh0, hb⟩
    replace F := F.below hb
    replace kb := bt kb hb
    replace ow0 := ow0.below hb
    replace og0 := og0.below hb
    have hzW16 : W15.heap.size ≤ W16.heap.size := hb.size
    clear hb
    have in_tqh0 := tqh0.inR V0.out
    go_wp2_with fail
    refine (HI.out _ _ tqh0.rd).mono ?_
    rintro e W17 ⟨Ah0, ch0, rfl, hch0, oh0, hb⟩
    replace F := F.below hb
    replace kb := bt kb hb
    replace ow0 := ow0.below hb
    replace og0 := og0.below hb
    replace tqh0 := tqh0.below hb
    have hzW17 : W16.heap.size ≤ W17.heap.size := hb.size
    clear hb
    have in_oh0 := oh0.inR VL.out.1
    clear tqh0 in_tqh0
    replace F : Fr (W17.alloc (.cells #[.bool s, .slice Ah0 L.length ch0] 27)) _ := F.alloc 27 [.bool s, .slice Ah0 L.length ch0]
    replace kb := kb.alloc kb.size (.cells #[.bool s, .slice Ah0 L.length ch0] 27)
    replace ow0 := ow0.below (ba1 W17 (.cells #[.bool s, .slice Ah0 L.length ch0] 27))
    replace og0 := og0.below (ba1 W17 (.cells #[.bool s, .slice Ah0 L.length ch0] 27))
    replace oh0 := oh0.below (ba1 W17 (.cells #[.bool s, .slice Ah0 L.length ch0] 27))
    have hzW18 : W17.heap.size < (W17.alloc (.cells #[.bool s, .slice Ah0 L.length ch0] 27)).heap.size := by rw [sz1]; omega
    have e_h00 := F.get 0 0 rfl rfl
    have e_h01 := F.get 0 1 rfl rfl
    have e_w00 := F.get 3 0 rfl rfl
    have e_w01 := F.get 3 1 rfl rfl
    go_wp2_with fail
    clear e_h00 e_h01 e_w00 e_w01
    generalize W17.alloc (.cells #[.bool s, .slice Ah0 L.length ch0] 27) = W18 at F kb hzW18 ow0 og0 oh0 ⊢
    refine (HE.out _ _ _ _ _ oh0.rd ow0.rd).mono ?_
    rintro e W19 ⟨rfl, hb⟩
    replace F := F.below hb
    replace kb := bt kb hb
    replace ow0 := ow0.below hb
    replace og0 := og0.below hb
    replace oh0 := oh0.below hb
    have hzW19 : W18.heap.size ≤ W19.heap.size := hb.size
    clear hb
    have e_g00 := F.get 1 0 rfl rfl
    have e_g01 := F.get 1 1 rfl rfl
    go_wp2_with fail
    clear e_g00 e_g01
    refine (HH.out _ _ _ og0.rd).mono ?_
    rintro e W20 ⟨rfl, hb⟩
    replace F := F.below hb
    replace kb := bt kb hb
    replace ow0 := ow0.below hb
    replace og0 := og0.below hb
    replace oh0 := oh0.below hb
    have hzW20 : W19.heap.size ≤ W20.heap.size := hb.size
    clear hb
    go_wp2
    go_ret
    exact ⟨rfl, kb⟩
  · have SZ := Lib.hid (fun W => szBig_no p A n c 1048576 W (by omega) (by omega) hn0 hg0)
    clear hg0 hl0 hA0
    go_enter Try.func6, Try.ntmps6
    go_wp2_with fail
    refine (SZ.out _).mono ?_
    rintro e W2 ⟨rfl, hb⟩
    have kb := (ba1 _ _ ).trans (hb.mono (by rw [sz1]; omega))
    go_wp2
    go_ret
    exact ⟨rfl, kb⟩
end Go.Proofs.Ytnejpdlikdgnnaa
