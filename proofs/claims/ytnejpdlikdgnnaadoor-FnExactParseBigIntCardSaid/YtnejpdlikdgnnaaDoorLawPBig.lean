/-
  'FnExactParseBigInt' returns true: its walk.
-/
import Derived.Test.YtnejpdlikdgnnaaDoorFrame
import Derived.Test.YtnejpdlikdgnnaaDoorBigO
import Derived.Test.YtnejpdlikdgnnaaDoorPBig
import Derived.Deep.RegionHeld3
import Derived.Deep.DeepCutAuto
namespace Go.Proofs.YtnejpdlikdgnnaaDoor
open Go.ChangeShapes Go.WideShapes Go.ChangeAt Go.RowKit
open Go.ChangeMaps (open_string shut_string)
set_option linter.unusedVariables false
set_option linter.unusedSimpArgs false
set_option maxRecDepth 4000

set_option maxHeartbeats 2000000 in
theorem law_pb (s0 : ByteArray) (w : World) (hs : s0.size ≤ maxLen) :
    Calls Tryd.prog 5 #[.string s0] w fun e w' => e = .returned (.bool true) ∧ Below w.heap.size w w' := by
  unfold maxLen at hs
  by_cases hg0 : s0.size ≤ 1048576
  · have hg1 : ¬ (1048576 : Int) < (s0.size : Int) := by omega
    have HS := Lib.hid (fun W => spec_pb s0 W hg0)
    have HI := Lib.hid (fun W => impl_pb s0 W hg0)
    have hlen : (pbL (pbP s0) (pbT s0)).length ≤ 1048576 := pbL_len _ _
    generalize pbL (pbP s0) (pbT s0) = L at HS HI hlen
    generalize (pbP s0 && pbB (pbP s0) (pbT s0)) = s at HS HI
    have HE := Lib.hid (fun A D c d W h h' => eqBig_same s L A D L.length c d W rfl (by omega) h h')
    have HM : Hid (∀ B A c W, OwnS B W A (vi L) → Calls Tryd.prog 21 #[.agg #[.bool s, .slice A L.length c], .int .i64 1] W fun e w' => e = .returned (.int .i64 (mk1 L.length)) ∧ OwnS B w' A (vi (marks 1 L.length)) ∧ W.grownBy w' (rowOf L.length A)) := Lib.hid (fun B A c W h => markBig_any B s (vi L) A L.length c 1 W (vi_length L) (by omega) (by omega) h)
    have HH : Hid (∀ A c W, RdS W A (vi (marks 1 L.length)) → Calls Tryd.prog 22 #[.agg #[.bool s, .slice A L.length c], .int .i64 1] W fun e w' => e = .returned (.int .i64 (mk1 L.length)) ∧ Below W.heap.size W w') := Lib.hid (fun A c W h => heldBig_any s A L.length c 1 W (by omega) (by omega) h)
    have VL : Hid ((vi L).length = L.length ∧ (vi (marks 1 L.length)).length = L.length) := Lib.hid ⟨vi_length L, by rw [vi_length, marks_length]⟩
    have hl0 := mk1_pos L.length
    have hl1 : ¬ mk1 L.length < 0 := by omega
    generalize pbB (pbP s0) (pbT s0) = b at HS HI
    have q2 : (b == b) = true := by simp
    go_enter Tryd.func5, Tryd.ntmps5
    go_wp2_with fail
    have F := Fr.nil w
    have kb := Below.refl w.heap.size w
    refine (HS.out _).mono ?_
    rintro e W1 ⟨Aw0, cw0, rfl, hcw0, ow0, hb⟩
    replace F := F.below hb
    replace kb := bt kb hb
    have hzW1 : w.heap.size ≤ W1.heap.size := hb.size
    clear hb
    have in_ow0 := ow0.inR VL.out.1
    replace F : Fr (W1.alloc (.cells #[.bool s, .slice Aw0 L.length cw0] 37)) _ := F.alloc 37 [.bool s, .slice Aw0 L.length cw0]
    replace kb := kb.alloc kb.size (.cells #[.bool s, .slice Aw0 L.length cw0] 37)
    replace ow0 := ow0.below (ba1 W1 (.cells #[.bool s, .slice Aw0 L.length cw0] 37))
    have hzW2 : W1.heap.size < (W1.alloc (.cells #[.bool s, .slice Aw0 L.length cw0] 37)).heap.size := by rw [sz1]; omega
    go_wp2_with fail
    generalize W1.alloc (.cells #[.bool s, .slice Aw0 L.length cw0] 37) = W2 at F kb hzW2 ow0 ⊢
    refine (HI.out _).mono ?_
    rintro e W3 ⟨Ag0, cg0, rfl, hcg0, og0, hb⟩
    replace F := F.below hb
    replace kb := bt kb hb
    replace ow0 := ow0.below hb
    have hzW3 : W2.heap.size ≤ W3.heap.size := hb.size
    clear hb
    have in_og0 := og0.inR VL.out.1
    replace F : Fr (W3.alloc (.cells #[.bool s, .slice Ag0 L.length cg0] 37)) _ := F.alloc 37 [.bool s, .slice Ag0 L.length cg0]
    replace kb := kb.alloc kb.size (.cells #[.bool s, .slice Ag0 L.length cg0] 37)
    replace ow0 := ow0.below (ba1 W3 (.cells #[.bool s, .slice Ag0 L.length cg0] 37))
    replace og0 := og0.below (ba1 W3 (.cells #[.bool s, .slice Ag0 L.length cg0] 37))
    have hzW4 : W3.heap.size < (W3.alloc (.cells #[.bool s, .slice Ag0 L.length cg0] 37)).heap.size := by rw [sz1]; omega
    have e_g00 := F.get 0 0 rfl rfl
    have e_g01 := F.get 0 1 rfl rfl
    have e_w00 := F.get 1 0 rfl rfl
    have e_w01 := F.get 1 1 rfl rfl
    go_wp2_with fail
    clear e_g00 e_g01 e_w00 e_w01
    generalize W3.alloc (.cells #[.bool s, .slice Ag0 L.length cg0] 37) = W4 at F kb hzW4 ow0 og0 ⊢
    refine (HE.out _ _ _ _ _ og0.rd ow0.rd).mono ?_
    rintro e W5 ⟨rfl, hb⟩
    replace F := F.below hb
    replace kb := bt kb hb
    replace ow0 := ow0.below hb
    replace og0 := og0.below hb
    have hzW5 : W4.heap.size ≤ W5.heap.size := hb.size
    clear hb
    have e_g00 := F.get 0 0 rfl rfl
    have e_g01 := F.get 0 1 rfl rfl
    go_wp2_with fail
    clear e_g00 e_g01
    refine (HM.out _ _ _ _ og0).mono ?_
    rintro e W6 ⟨rfl, og0q, hgr⟩
    replace F := F.grownR in_og0 hgr (by intro x hx; simp only [List.mem_cons, List.not_mem_nil, or_false] at hx; rcases hx with rfl | rfl <;> (dsimp only; omega))
    replace kb := below_grownR kb in_og0 hgr (by omega)
    replace ow0 := ow0.apartR VL.out.1 in_ow0 in_og0 hgr (by omega)
    have hzW6 : W5.heap.size ≤ W6.heap.size := hgr.size
    clear hgr
    clear og0
    have og0 := og0q
    clear og0q
    have e_g00 := F.get 0 0 rfl rfl
    have e_g01 := F.get 0 1 rfl rfl
    go_wp2_with fail
    clear e_g00 e_g01
    refine (HH.out _ _ _ og0.rd).mono ?_
    rintro e W7 ⟨rfl, hb⟩
    replace F := F.below hb
    replace kb := bt kb hb
    replace ow0 := ow0.below hb
    replace og0 := og0.below hb
    have hzW7 : W6.heap.size ≤ W7.heap.size := hb.size
    clear hb
    go_wp2_with fail
    refine (HI.out _).mono ?_
    rintro e W8 ⟨Ah0, ch0, rfl, hch0, oh0, hb⟩
    replace F := F.below hb
    replace kb := bt kb hb
    replace ow0 := ow0.below hb
    replace og0 := og0.below hb
    have hzW8 : W7.heap.size ≤ W8.heap.size := hb.size
    clear hb
    have in_oh0 := oh0.inR VL.out.1
    replace F : Fr (W8.alloc (.cells #[.bool s, .slice Ah0 L.length ch0] 37)) _ := F.alloc 37 [.bool s, .slice Ah0 L.length ch0]
    replace kb := kb.alloc kb.size (.cells #[.bool s, .slice Ah0 L.length ch0] 37)
    replace ow0 := ow0.below (ba1 W8 (.cells #[.bool s, .slice Ah0 L.length ch0] 37))
    replace og0 := og0.below (ba1 W8 (.cells #[.bool s, .slice Ah0 L.length ch0] 37))
    replace oh0 := oh0.below (ba1 W8 (.cells #[.bool s, .slice Ah0 L.length ch0] 37))
    have hzW9 : W8.heap.size < (W8.alloc (.cells #[.bool s, .slice Ah0 L.length ch0] 37)).heap.size := by rw [sz1]; omega
    have e_h00 := F.get 0 0 rfl rfl
    have e_h01 := F.get 0 1 rfl rfl
    have e_w00 := F.get 2 0 rfl rfl
    have e_w01 := F.get 2 1 rfl rfl
    go_wp2_with fail
    clear e_h00 e_h01 e_w00 e_w01
    generalize W8.alloc (.cells #[.bool s, .slice Ah0 L.length ch0] 37) = W9 at F kb hzW9 ow0 og0 oh0 ⊢
    refine (HE.out _ _ _ _ _ oh0.rd ow0.rd).mono ?_
    rintro e W10 ⟨rfl, hb⟩
    replace F := F.below hb
    replace kb := bt kb hb
    replace ow0 := ow0.below hb
    replace og0 := og0.below hb
    replace oh0 := oh0.below hb
    have hzW10 : W9.heap.size ≤ W10.heap.size := hb.size
    clear hb
    have e_g00 := F.get 1 0 rfl rfl
    have e_g01 := F.get 1 1 rfl rfl
    go_wp2_with fail
    clear e_g00 e_g01
    refine (HH.out _ _ _ og0.rd).mono ?_
    rintro e W11 ⟨rfl, hb⟩
    replace F := F.below hb
    replace kb := bt kb hb
    replace ow0 := ow0.below hb
    replace og0 := og0.below hb
    replace oh0 := oh0.below hb
    have hzW11 : W10.heap.size ≤ W11.heap.size := hb.size
    clear hb
    go_wp2
    go_ret
    exact ⟨rfl, kb⟩
  · have hg1 : (1048576 : Int) < (s0.size : Int) := by omega
    go_enter Tryd.func5, Tryd.ntmps5
    go_wp2
    go_ret
    exact ⟨rfl, Below.refl _ _⟩
end Go.Proofs.YtnejpdlikdgnnaaDoor
