/-
  'FnExactParseRat' returns true: its walk.
-/
import Derived.Test.YtpmndiajecmfcabGreatDoorDkD
import Derived.Test.YtpmndiajecmfcabGreatDoorPRatW
import Derived.Deep.RegionHeld3
import Derived.Deep.DeepCutAuto
namespace Go.Proofs.YtpmndiajecmfcabGreatDoor
open Go.ChangeShapes Go.WideShapes Go.ChangeAt Go.RowKit
open Go.ChangeMaps (open_string shut_string)
set_option linter.unusedVariables false
set_option linter.unusedSimpArgs false
set_option maxRecDepth 4000

set_option maxHeartbeats 4000000 in
theorem law_prat (s0 : ByteArray) (w : World) (hs : s0.size ≤ maxLen) (mx : Int) (htab : w.cell? ⟨0, 0, none⟩ = some (.int .i64 mx)) :
    Calls Tryz.prog 3 #[.string s0] w fun e w' => e = .returned (.bool true) ∧ Below w.heap.size w w' := by
  unfold maxLen at hs
  by_cases hg0 : s0.size ≤ 1048576
  · have hg1 : ¬ (1048576 : Int) < (s0.size : Int) := by omega
    have HS := Lib.hid (fun W => spec_prat s0 W hg0)
    have HI := Lib.hid (fun W ht => impl_prat s0 mx W hg0 ht)
    have HTAB := Lib.hid htab
    clear htab
    have hlen : (prL s0).length ≤ 1048576 ∧ (prM s0).length ≤ 1048576 := ⟨prL_len s0, prM_len s0⟩
    try unfold MadeR at HS
    try unfold MadeR at HI
    try unfold PairR at HS
    try unfold PairR at HI
    generalize prL s0 = L at HS HI hlen
    generalize prM s0 = M at HS HI hlen
    generalize prP s0 = s at HS HI
    obtain ⟨hlenL, hlenM⟩ := hlen
    have HE := Lib.hid (fun A D A' D' c d c' d' W a1 a2 a3 a4 => eqRat_same s L M A D A' D' L.length M.length c d c' d' W rfl rfl (by omega) (by omega) a1 a2 a3 a4)
    have HM : Hid (∀ B A c D d W, OwnS B W A (vi L) → OwnS B W D (vi M) → Apart L.length A M.length D → Calls Tryz.prog 8 #[.agg #[.bool s, .slice A L.length c, .slice D M.length d], .int .i64 1] W fun e w' => e = .returned (.int .i64 (mk2 L.length M.length)) ∧ OwnS B w' A (vi (marks 1 L.length)) ∧ OwnS B w' D (vi (marks (1 + (L.length : Int)) M.length)) ∧ Grown2 W w' (rowOf L.length A) (rowOf M.length D)) := Lib.hid (fun B A c D d W a1 a2 a3 => markRat_any B s (vi L) (vi M) A D L.length c M.length d 1 W (vi_length L) (vi_length M) (by omega) (by omega) a1 a2 a3)
    have HH : Hid (∀ A c D d W, RdS W A (vi (marks 1 L.length)) → RdS W D (vi (marks (1 + (L.length : Int)) M.length)) → Calls Tryz.prog 9 #[.agg #[.bool s, .slice A L.length c, .slice D M.length d], .int .i64 1] W fun e w' => e = .returned (.int .i64 (mk2 L.length M.length)) ∧ Below W.heap.size W w') := Lib.hid (fun A c D d W a1 a2 => heldRat_any s A D L.length c M.length d 1 W (by omega) (by omega) a1 a2)
    have VL : Hid ((vi L).length = L.length ∧ (vi M).length = M.length ∧ (vi (marks 1 L.length)).length = L.length ∧ (vi (marks (1 + (L.length : Int)) M.length)).length = M.length) := Lib.hid ⟨vi_length L, vi_length M, by rw [vi_length, marks_length], by rw [vi_length, marks_length]⟩
    have hl0 := mk2_pos L.length M.length
    have hl1 : ¬ mk2 L.length M.length < 0 := by omega
    generalize prOk s0 = b at HS HI
    have q2 : (b == b) = true := by simp
    go_enter Tryz.func3, Tryz.ntmps3
    go_wp2_with fail
    have F := Fr.nil w
    have kb := Below.refl w.heap.size w
    refine (HS.out _).mono ?_
    rintro e W1 ⟨Aw0, cw0, Dw0, dw0, rfl, hcw0, hdw0, owa, owb, hap_w0, hb⟩
    replace F := F.below hb
    replace kb := bt kb hb
    have hzW1 : w.heap.size ≤ W1.heap.size := hb.size
    clear hb
    have in_owa := owa.inR VL.out.1
    have in_owb := owb.inR VL.out.2.1
    replace F : Fr (W1.alloc (.cells #[.bool s, .slice Aw0 L.length cw0, .slice Dw0 M.length dw0] 26)) _ := F.alloc 26 [.bool s, .slice Aw0 L.length cw0, .slice Dw0 M.length dw0]
    replace kb := kb.alloc kb.size (.cells #[.bool s, .slice Aw0 L.length cw0, .slice Dw0 M.length dw0] 26)
    replace owa := owa.below (ba1 W1 (.cells #[.bool s, .slice Aw0 L.length cw0, .slice Dw0 M.length dw0] 26))
    replace owb := owb.below (ba1 W1 (.cells #[.bool s, .slice Aw0 L.length cw0, .slice Dw0 M.length dw0] 26))
    have hzW2 : W1.heap.size < (W1.alloc (.cells #[.bool s, .slice Aw0 L.length cw0, .slice Dw0 M.length dw0] 26)).heap.size := by rw [sz1]; omega
    go_wp2_with fail
    generalize W1.alloc (.cells #[.bool s, .slice Aw0 L.length cw0, .slice Dw0 M.length dw0] 26) = W2 at F kb hzW2 owa owb ⊢
    refine (HI.out _ (cell_kept HTAB.out kb)).mono ?_
    rintro e W3 ⟨Ag0, cg0, Dg0, dg0, rfl, hcg0, hdg0, oga, ogb, hap_g0, hb⟩
    replace F := F.below hb
    replace kb := bt kb hb
    replace owa := owa.below hb
    replace owb := owb.below hb
    have hzW3 : W2.heap.size ≤ W3.heap.size := hb.size
    clear hb
    have in_oga := oga.inR VL.out.1
    have in_ogb := ogb.inR VL.out.2.1
    replace F : Fr (W3.alloc (.cells #[.bool s, .slice Ag0 L.length cg0, .slice Dg0 M.length dg0] 26)) _ := F.alloc 26 [.bool s, .slice Ag0 L.length cg0, .slice Dg0 M.length dg0]
    replace kb := kb.alloc kb.size (.cells #[.bool s, .slice Ag0 L.length cg0, .slice Dg0 M.length dg0] 26)
    replace owa := owa.below (ba1 W3 (.cells #[.bool s, .slice Ag0 L.length cg0, .slice Dg0 M.length dg0] 26))
    replace owb := owb.below (ba1 W3 (.cells #[.bool s, .slice Ag0 L.length cg0, .slice Dg0 M.length dg0] 26))
    replace oga := oga.below (ba1 W3 (.cells #[.bool s, .slice Ag0 L.length cg0, .slice Dg0 M.length dg0] 26))
    replace ogb := ogb.below (ba1 W3 (.cells #[.bool s, .slice Ag0 L.length cg0, .slice Dg0 M.length dg0] 26))
    have hzW4 : W3.heap.size < (W3.alloc (.cells #[.bool s, .slice Ag0 L.length cg0, .slice Dg0 M.length dg0] 26)).heap.size := by rw [sz1]; omega
    have e_g00 := F.get 0 0 rfl rfl
    have e_g01 := F.get 0 1 rfl rfl
    have e_g02 := F.get 0 2 rfl rfl
    have e_w00 := F.get 1 0 rfl rfl
    have e_w01 := F.get 1 1 rfl rfl
    have e_w02 := F.get 1 2 rfl rfl
    go_wp2_with fail
    clear e_g00 e_g01 e_g02 e_w00 e_w01 e_w02
    generalize W3.alloc (.cells #[.bool s, .slice Ag0 L.length cg0, .slice Dg0 M.length dg0] 26) = W4 at F kb hzW4 owa owb oga ogb ⊢
    refine (HE.out _ _ _ _ _ _ _ _ _ oga.rd ogb.rd owa.rd owb.rd).mono ?_
    rintro e W5 ⟨rfl, hb⟩
    replace F := F.below hb
    replace kb := bt kb hb
    replace owa := owa.below hb
    replace owb := owb.below hb
    replace oga := oga.below hb
    replace ogb := ogb.below hb
    have hzW5 : W4.heap.size ≤ W5.heap.size := hb.size
    clear hb
    have e_g00 := F.get 0 0 rfl rfl
    have e_g01 := F.get 0 1 rfl rfl
    have e_g02 := F.get 0 2 rfl rfl
    go_wp2_with fail
    clear e_g00 e_g01 e_g02
    refine (HM.out _ _ _ _ _ _ oga ogb hap_g0).mono ?_
    rintro e W6 ⟨rfl, ogaq, ogbq, ⟨WmW6, hgr0, hgr1⟩⟩
    replace F := F.grownR in_oga hgr0 (by intro x hx; simp only [List.mem_cons, List.not_mem_nil, or_false] at hx; rcases hx with rfl | rfl <;> (dsimp only; omega))
    replace kb := below_grownR kb in_oga hgr0 (by omega)
    replace owa := owa.apartR VL.out.1 in_owa in_oga hgr0 (by omega)
    replace owb := owb.apartR VL.out.2.1 in_owb in_oga hgr0 (by omega)
    replace F := F.grownR in_ogb hgr1 (by intro x hx; simp only [List.mem_cons, List.not_mem_nil, or_false] at hx; rcases hx with rfl | rfl <;> (dsimp only; omega))
    replace kb := below_grownR kb in_ogb hgr1 (by omega)
    replace owa := owa.apartR VL.out.1 in_owa in_ogb hgr1 (by omega)
    replace owb := owb.apartR VL.out.2.1 in_owb in_ogb hgr1 (by omega)
    have hzW6 : W5.heap.size ≤ W6.heap.size := Nat.le_trans hgr0.size hgr1.size
    clear hgr0 hgr1
    clear oga
    have oga := ogaq
    clear ogaq
    clear ogb
    have ogb := ogbq
    clear ogbq
    have e_g00 := F.get 0 0 rfl rfl
    have e_g01 := F.get 0 1 rfl rfl
    have e_g02 := F.get 0 2 rfl rfl
    go_wp2_with fail
    clear e_g00 e_g01 e_g02
    refine (HH.out _ _ _ _ _ oga.rd ogb.rd).mono ?_
    rintro e W7 ⟨rfl, hb⟩
    replace F := F.below hb
    replace kb := bt kb hb
    replace owa := owa.below hb
    replace owb := owb.below hb
    replace oga := oga.below hb
    replace ogb := ogb.below hb
    have hzW7 : W6.heap.size ≤ W7.heap.size := hb.size
    clear hb
    go_wp2_with fail
    refine (HI.out _ (cell_kept HTAB.out kb)).mono ?_
    rintro e W8 ⟨Ah0, ch0, Dh0, dh0, rfl, hch0, hdh0, oha, ohb, hap_h0, hb⟩
    replace F := F.below hb
    replace kb := bt kb hb
    replace owa := owa.below hb
    replace owb := owb.below hb
    replace oga := oga.below hb
    replace ogb := ogb.below hb
    have hzW8 : W7.heap.size ≤ W8.heap.size := hb.size
    clear hb
    have in_oha := oha.inR VL.out.1
    have in_ohb := ohb.inR VL.out.2.1
    replace F : Fr (W8.alloc (.cells #[.bool s, .slice Ah0 L.length ch0, .slice Dh0 M.length dh0] 26)) _ := F.alloc 26 [.bool s, .slice Ah0 L.length ch0, .slice Dh0 M.length dh0]
    replace kb := kb.alloc kb.size (.cells #[.bool s, .slice Ah0 L.length ch0, .slice Dh0 M.length dh0] 26)
    replace owa := owa.below (ba1 W8 (.cells #[.bool s, .slice Ah0 L.length ch0, .slice Dh0 M.length dh0] 26))
    replace owb := owb.below (ba1 W8 (.cells #[.bool s, .slice Ah0 L.length ch0, .slice Dh0 M.length dh0] 26))
    replace oga := oga.below (ba1 W8 (.cells #[.bool s, .slice Ah0 L.length ch0, .slice Dh0 M.length dh0] 26))
    replace ogb := ogb.below (ba1 W8 (.cells #[.bool s, .slice Ah0 L.length ch0, .slice Dh0 M.length dh0] 26))
    replace oha := oha.below (ba1 W8 (.cells #[.bool s, .slice Ah0 L.length ch0, .slice Dh0 M.length dh0] 26))
    replace ohb := ohb.below (ba1 W8 (.cells #[.bool s, .slice Ah0 L.length ch0, .slice Dh0 M.length dh0] 26))
    have hzW9 : W8.heap.size < (W8.alloc (.cells #[.bool s, .slice Ah0 L.length ch0, .slice Dh0 M.length dh0] 26)).heap.size := by rw [sz1]; omega
    have e_h00 := F.get 0 0 rfl rfl
    have e_h01 := F.get 0 1 rfl rfl
    have e_h02 := F.get 0 2 rfl rfl
    have e_w00 := F.get 2 0 rfl rfl
    have e_w01 := F.get 2 1 rfl rfl
    have e_w02 := F.get 2 2 rfl rfl
    go_wp2_with fail
    clear e_h00 e_h01 e_h02 e_w00 e_w01 e_w02
    generalize W8.alloc (.cells #[.bool s, .slice Ah0 L.length ch0, .slice Dh0 M.length dh0] 26) = W9 at F kb hzW9 owa owb oga ogb oha ohb ⊢
    refine (HE.out _ _ _ _ _ _ _ _ _ oha.rd ohb.rd owa.rd owb.rd).mono ?_
    rintro e W10 ⟨rfl, hb⟩
    replace F := F.below hb
    replace kb := bt kb hb
    replace owa := owa.below hb
    replace owb := owb.below hb
    replace oga := oga.below hb
    replace ogb := ogb.below hb
    replace oha := oha.below hb
    replace ohb := ohb.below hb
    have hzW10 : W9.heap.size ≤ W10.heap.size := hb.size
    clear hb
    have e_g00 := F.get 1 0 rfl rfl
    have e_g01 := F.get 1 1 rfl rfl
    have e_g02 := F.get 1 2 rfl rfl
    go_wp2_with fail
    clear e_g00 e_g01 e_g02
    refine (HH.out _ _ _ _ _ oga.rd ogb.rd).mono ?_
    rintro e W11 ⟨rfl, hb⟩
    replace F := F.below hb
    replace kb := bt kb hb
    replace owa := owa.below hb
    replace owb := owb.below hb
    replace oga := oga.below hb
    replace ogb := ogb.below hb
    replace oha := oha.below hb
    replace ohb := ohb.below hb
    have hzW11 : W10.heap.size ≤ W11.heap.size := hb.size
    clear hb
    go_wp2
    go_ret
    exact ⟨rfl, kb⟩
  · have hg1 : (1048576 : Int) < (s0.size : Int) := by omega
    go_enter Tryz.func3, Tryz.ntmps3
    go_wp2
    go_ret
    exact ⟨rfl, Below.refl _ _⟩
end Go.Proofs.YtpmndiajecmfcabGreatDoor
