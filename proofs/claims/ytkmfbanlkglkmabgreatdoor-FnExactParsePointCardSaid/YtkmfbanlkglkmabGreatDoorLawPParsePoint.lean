/-
  'FnExactParsePoint' returns true: its walk.
-/
import Derived.Test.YtkmfbanlkglkmabGreatDoorPPt
import Derived.Test.YtkmfbanlkglkmabGreatDoorLawP
import Derived.Deep.RegionHeld3
import Derived.Deep.DeepCutAuto
namespace Go.Proofs.YtkmfbanlkglkmabGreatDoor
open Go.ChangeShapes Go.WideShapes Go.ChangeAt Go.RowKit
open Go.ChangeMaps (open_string shut_string)
set_option linter.unusedVariables false
set_option linter.unusedSimpArgs false
set_option maxRecDepth 4000
set_option maxHeartbeats 4000000 in
theorem law_ppt (s0 : ByteArray) (w : World) (hs : s0.size ≤ maxLen) (mx : Int) (htab : w.cell? ⟨0, 0, none⟩ = some (.int .i64 mx)) :
    Calls Tryz.prog 4 #[.string s0] w fun e w' => e = .returned (.bool true) ∧ Below w.heap.size w w' := by
  unfold maxLen at hs
  by_cases hg0 : s0.size ≤ 1048576
  · have hg1 : ¬ (1048576 : Int) < (s0.size : Int) := by omega
    have HS := Lib.hid (fun W => spec_ppt s0 W hg0)
    have HI := Lib.hid (fun W ht => impl_ppt s0 mx W hg0 ht)
    have HTAB := Lib.hid htab
    clear htab
    have shU : Short (ppX s0) := ppX_short s0
    have shV : Short (ppY s0) := ppY_short s0
    generalize (ppX s0) = U at HS HI shU
    generalize (ppY s0) = V at HS HI shV
    generalize (ppOk s0) = q at HS HI
    have q2 : (q == q) = true := by simp
    have HE := Lib.hid (fun (a b c d : Ad) W h h' => eqPt_t U V a b c d W shU shV h h')
    have hm1 := nxt_le 1 U; have hm2 := nxt_up (Int.le_refl 1) shU; have hm3 := nxt_le (nxt 1 U) V; have hm4 := nxt_up (Int.le_refl (nxt 1 U)) shV
    have HM := Lib.hid (fun (a b : Ad) lo hi W hh ow ap => markPt_r lo hi U V a b 1 W shU shV (by omega) (by omega) hh ow ap)
    have HH := Lib.hid (fun (a b : Ad) W h => heldPt_r U V a b 1 W shU shV (by omega) (by omega) h)
    have hl0 : 0 < nxt (nxt 1 U) V := by omega
    have hl1 : ¬ nxt (nxt 1 U) V < 0 := by omega
    clear hm1 hm2 hm3 hm4
    generalize mkR 1 U = MU at HM HH
    generalize mkR (nxt 1 U) V = MV at HM HH
    generalize nxt (nxt 1 U) V = KM at HM HH hl0 hl1
    clear shU shV
    go_enter Tryz.func4, Tryz.ntmps4
    go_wp2_with fail
    have F := Fr.nil w
    have kb := Below.refl w.heap.size w
    refine (HS.out _).mono ?_
    rintro e W1 ⟨pw0, qw0, rfl, hcapw0, ow0, hapw0, hb⟩
    replace F := F.below hb
    replace kb := bt kb hb
    have hzW1 : w.heap.size ≤ W1.heap.size := hb.size
    clear hb
    replace F : Fr (W1.alloc (.cells #[.bool U.p, .slice pw0.A U.l.length pw0.c, .slice pw0.D U.m.length pw0.d, .bool V.p, .slice qw0.A V.l.length qw0.c, .slice qw0.D V.m.length qw0.d] 35)) _ := F.alloc 35 [.bool U.p, .slice pw0.A U.l.length pw0.c, .slice pw0.D U.m.length pw0.d, .bool V.p, .slice qw0.A V.l.length qw0.c, .slice qw0.D V.m.length qw0.d]
    replace kb := kb.alloc kb.size (.cells #[.bool U.p, .slice pw0.A U.l.length pw0.c, .slice pw0.D U.m.length pw0.d, .bool V.p, .slice qw0.A V.l.length qw0.c, .slice qw0.D V.m.length qw0.d] 35)
    replace ow0 := ow0.below (ba1 W1 (.cells #[.bool U.p, .slice pw0.A U.l.length pw0.c, .slice pw0.D U.m.length pw0.d, .bool V.p, .slice qw0.A V.l.length qw0.c, .slice qw0.D V.m.length qw0.d] 35))
    have hzW2 : W1.heap.size < (W1.alloc (.cells #[.bool U.p, .slice pw0.A U.l.length pw0.c, .slice pw0.D U.m.length pw0.d, .bool V.p, .slice qw0.A V.l.length qw0.c, .slice qw0.D V.m.length qw0.d] 35)).heap.size := by rw [sz1]; omega
    go_wp2_with fail
    generalize W1.alloc (.cells #[.bool U.p, .slice pw0.A U.l.length pw0.c, .slice pw0.D U.m.length pw0.d, .bool V.p, .slice qw0.A V.l.length qw0.c, .slice qw0.D V.m.length qw0.d] 35) = W2 at F kb hzW2 ow0 ⊢
    refine (HI.out _ (cell_kept HTAB.out kb)).mono ?_
    rintro e W3 ⟨pg0, qg0, rfl, hcapg0, og0, hapg0, hb⟩
    replace F := F.below hb
    replace kb := bt kb hb
    replace ow0 := ow0.below hb
    have hzW3 : W2.heap.size ≤ W3.heap.size := hb.size
    clear hb
    replace F : Fr (W3.alloc (.cells #[.bool U.p, .slice pg0.A U.l.length pg0.c, .slice pg0.D U.m.length pg0.d, .bool V.p, .slice qg0.A V.l.length qg0.c, .slice qg0.D V.m.length qg0.d] 35)) _ := F.alloc 35 [.bool U.p, .slice pg0.A U.l.length pg0.c, .slice pg0.D U.m.length pg0.d, .bool V.p, .slice qg0.A V.l.length qg0.c, .slice qg0.D V.m.length qg0.d]
    replace kb := kb.alloc kb.size (.cells #[.bool U.p, .slice pg0.A U.l.length pg0.c, .slice pg0.D U.m.length pg0.d, .bool V.p, .slice qg0.A V.l.length qg0.c, .slice qg0.D V.m.length qg0.d] 35)
    replace ow0 := ow0.below (ba1 W3 (.cells #[.bool U.p, .slice pg0.A U.l.length pg0.c, .slice pg0.D U.m.length pg0.d, .bool V.p, .slice qg0.A V.l.length qg0.c, .slice qg0.D V.m.length qg0.d] 35))
    replace og0 := og0.below (ba1 W3 (.cells #[.bool U.p, .slice pg0.A U.l.length pg0.c, .slice pg0.D U.m.length pg0.d, .bool V.p, .slice qg0.A V.l.length qg0.c, .slice qg0.D V.m.length qg0.d] 35))
    have hzW4 : W3.heap.size < (W3.alloc (.cells #[.bool U.p, .slice pg0.A U.l.length pg0.c, .slice pg0.D U.m.length pg0.d, .bool V.p, .slice qg0.A V.l.length qg0.c, .slice qg0.D V.m.length qg0.d] 35)).heap.size := by rw [sz1]; omega
    have e_g00 := F.get 0 0 rfl rfl
    have e_g01 := F.get 0 1 rfl rfl
    have e_g02 := F.get 0 2 rfl rfl
    have e_g03 := F.get 0 3 rfl rfl
    have e_g04 := F.get 0 4 rfl rfl
    have e_g05 := F.get 0 5 rfl rfl
    have e_w00 := F.get 1 0 rfl rfl
    have e_w01 := F.get 1 1 rfl rfl
    have e_w02 := F.get 1 2 rfl rfl
    have e_w03 := F.get 1 3 rfl rfl
    have e_w04 := F.get 1 4 rfl rfl
    have e_w05 := F.get 1 5 rfl rfl
    go_wp2_with fail
    clear e_g00 e_g01 e_g02 e_g03 e_g04 e_g05 e_w00 e_w01 e_w02 e_w03 e_w04 e_w05
    generalize W3.alloc (.cells #[.bool U.p, .slice pg0.A U.l.length pg0.c, .slice pg0.D U.m.length pg0.d, .bool V.p, .slice qg0.A V.l.length qg0.c, .slice qg0.D V.m.length qg0.d] 35) = W4 at F kb hzW4 ow0 og0 ⊢
    refine (HE.out pg0 qg0 pw0 qw0 _ og0.rds ow0.rds).mono ?_
    rintro e W5 ⟨rfl, hb⟩
    replace F := F.below hb
    replace kb := bt kb hb
    replace ow0 := ow0.below hb
    replace og0 := og0.below hb
    have hzW5 : W4.heap.size ≤ W5.heap.size := hb.size
    clear hb
    have e_g00 := F.get 0 0 rfl rfl
    have e_g01 := F.get 0 1 rfl rfl
    have e_g02 := F.get 0 2 rfl rfl
    have e_g03 := F.get 0 3 rfl rfl
    have e_g04 := F.get 0 4 rfl rfl
    have e_g05 := F.get 0 5 rfl rfl
    go_wp2_with fail
    clear e_g00 e_g01 e_g02 e_g03 e_g04 e_g05
    refine (HM.out pg0 qg0 _ _ _ (by omega) og0 hapg0).mono ?_
    rintro e W6 ⟨rfl, og0q, hT⟩
    replace F := F.turn hT (by intro x hx; simp only [List.mem_cons, List.not_mem_nil, or_false] at hx; rcases hx with rfl | rfl <;> (dsimp only; omega))
    replace kb := hT.below kb (by omega) (by omega)
    replace ow0 := ow0.turn hT (by omega)
    have hzW6 : W5.heap.size ≤ W6.heap.size := hT.size
    clear hT
    clear og0
    have og0 := og0q
    clear og0q
    have e_g00 := F.get 0 0 rfl rfl
    have e_g01 := F.get 0 1 rfl rfl
    have e_g02 := F.get 0 2 rfl rfl
    have e_g03 := F.get 0 3 rfl rfl
    have e_g04 := F.get 0 4 rfl rfl
    have e_g05 := F.get 0 5 rfl rfl
    go_wp2_with fail
    clear e_g00 e_g01 e_g02 e_g03 e_g04 e_g05
    refine (HH.out pg0 qg0 _ og0.rds).mono ?_
    rintro e W7 ⟨rfl, hb⟩
    replace F := F.below hb
    replace kb := bt kb hb
    replace ow0 := ow0.below hb
    replace og0 := og0.below hb
    have hzW7 : W6.heap.size ≤ W7.heap.size := hb.size
    clear hb
    go_wp2_with fail
    refine (HI.out _ (cell_kept HTAB.out kb)).mono ?_
    rintro e W8 ⟨ph0, qh0, rfl, hcaph0, oh0, haph0, hb⟩
    replace F := F.below hb
    replace kb := bt kb hb
    replace ow0 := ow0.below hb
    replace og0 := og0.below hb
    have hzW8 : W7.heap.size ≤ W8.heap.size := hb.size
    clear hb
    replace F : Fr (W8.alloc (.cells #[.bool U.p, .slice ph0.A U.l.length ph0.c, .slice ph0.D U.m.length ph0.d, .bool V.p, .slice qh0.A V.l.length qh0.c, .slice qh0.D V.m.length qh0.d] 35)) _ := F.alloc 35 [.bool U.p, .slice ph0.A U.l.length ph0.c, .slice ph0.D U.m.length ph0.d, .bool V.p, .slice qh0.A V.l.length qh0.c, .slice qh0.D V.m.length qh0.d]
    replace kb := kb.alloc kb.size (.cells #[.bool U.p, .slice ph0.A U.l.length ph0.c, .slice ph0.D U.m.length ph0.d, .bool V.p, .slice qh0.A V.l.length qh0.c, .slice qh0.D V.m.length qh0.d] 35)
    replace ow0 := ow0.below (ba1 W8 (.cells #[.bool U.p, .slice ph0.A U.l.length ph0.c, .slice ph0.D U.m.length ph0.d, .bool V.p, .slice qh0.A V.l.length qh0.c, .slice qh0.D V.m.length qh0.d] 35))
    replace og0 := og0.below (ba1 W8 (.cells #[.bool U.p, .slice ph0.A U.l.length ph0.c, .slice ph0.D U.m.length ph0.d, .bool V.p, .slice qh0.A V.l.length qh0.c, .slice qh0.D V.m.length qh0.d] 35))
    replace oh0 := oh0.below (ba1 W8 (.cells #[.bool U.p, .slice ph0.A U.l.length ph0.c, .slice ph0.D U.m.length ph0.d, .bool V.p, .slice qh0.A V.l.length qh0.c, .slice qh0.D V.m.length qh0.d] 35))
    have hzW9 : W8.heap.size < (W8.alloc (.cells #[.bool U.p, .slice ph0.A U.l.length ph0.c, .slice ph0.D U.m.length ph0.d, .bool V.p, .slice qh0.A V.l.length qh0.c, .slice qh0.D V.m.length qh0.d] 35)).heap.size := by rw [sz1]; omega
    have e_h00 := F.get 0 0 rfl rfl
    have e_h01 := F.get 0 1 rfl rfl
    have e_h02 := F.get 0 2 rfl rfl
    have e_h03 := F.get 0 3 rfl rfl
    have e_h04 := F.get 0 4 rfl rfl
    have e_h05 := F.get 0 5 rfl rfl
    have e_w00 := F.get 2 0 rfl rfl
    have e_w01 := F.get 2 1 rfl rfl
    have e_w02 := F.get 2 2 rfl rfl
    have e_w03 := F.get 2 3 rfl rfl
    have e_w04 := F.get 2 4 rfl rfl
    have e_w05 := F.get 2 5 rfl rfl
    go_wp2_with fail
    clear e_h00 e_h01 e_h02 e_h03 e_h04 e_h05 e_w00 e_w01 e_w02 e_w03 e_w04 e_w05
    generalize W8.alloc (.cells #[.bool U.p, .slice ph0.A U.l.length ph0.c, .slice ph0.D U.m.length ph0.d, .bool V.p, .slice qh0.A V.l.length qh0.c, .slice qh0.D V.m.length qh0.d] 35) = W9 at F kb hzW9 ow0 og0 oh0 ⊢
    refine (HE.out ph0 qh0 pw0 qw0 _ oh0.rds ow0.rds).mono ?_
    rintro e W10 ⟨rfl, hb⟩
    replace F := F.below hb
    replace kb := bt kb hb
    replace ow0 := ow0.below hb
    replace og0 := og0.below hb
    replace oh0 := oh0.below hb
    have hzW10 : W9.heap.size ≤ W10.heap.size := hb.size
    clear hb
    have e_g00 := F.get 1 0 rfl rfl
    have e_g01 := F.get 1 1 rfl rfl
    have e_g02 := F.get 1 2 rfl rfl
    have e_g03 := F.get 1 3 rfl rfl
    have e_g04 := F.get 1 4 rfl rfl
    have e_g05 := F.get 1 5 rfl rfl
    go_wp2_with fail
    clear e_g00 e_g01 e_g02 e_g03 e_g04 e_g05
    refine (HH.out pg0 qg0 _ og0.rds).mono ?_
    rintro e W11 ⟨rfl, hb⟩
    replace F := F.below hb
    replace kb := bt kb hb
    replace ow0 := ow0.below hb
    replace og0 := og0.below hb
    replace oh0 := oh0.below hb
    have hzW11 : W10.heap.size ≤ W11.heap.size := hb.size
    clear hb
    go_wp2
    go_ret
    exact ⟨rfl, kb⟩
  · have hg1 : (1048576 : Int) < (s0.size : Int) := by omega
    go_enter Tryz.func4, Tryz.ntmps4
    go_wp2
    go_ret
    exact ⟨rfl, Below.refl _ _⟩
end Go.Proofs.YtkmfbanlkglkmabGreatDoor
