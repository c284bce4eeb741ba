/-
  'FnExactFormatBigInt' returns true: its walk.
-/
import Derived.Test.YtnejpdlikdgnnaaDoorFrame
import Derived.Test.YtnejpdlikdgnnaaDoorBigO
import Derived.Test.YtnejpdlikdgnnaaDoorFBig
import Derived.Deep.RegionHeld3
import Derived.Deep.DeepCutAuto
namespace Go.Proofs.YtnejpdlikdgnnaaDoor
open Go.ChangeShapes Go.WideShapes Go.ChangeAt Go.RowKit
open Go.ChangeMaps (open_string shut_string)
set_option linter.unusedVariables false
set_option linter.unusedSimpArgs false
set_option maxRecDepth 4000

set_option maxHeartbeats 2000000 in
theorem law_fmtB (p : Bool) (l : List Int) (A : Option Addr) (n c : Nat) (w : World) (hl0 : l.length = n) (hn0 : n ≤ 9223372036854775807) (hA0 : RdS w A (vi l)) (htab : Lib.TabIs Tryd.prog w "internal/strconv.uint64pow10" .u64 Lib.pow10Tab) :
    Calls Tryd.prog 4 #[.agg #[.bool p, .slice A n c]] w fun e w' => e = .returned (.bool true) ∧ Below w.heap.size w w' := by
  by_cases hg0 : (n : Int) ≤ 1048576
  · have hk0 : n ≤ 1048576 := by omega
    have SZ0 := Lib.hid (fun W => szBig_yes p A n c 1048576 W (by omega) (by omega) hg0)
    have hs0 : ¬ 1048576 - (n : Int) < 0 := by omega
    have T0 := Lib.hid (fun W h => toBig_any p l A n c W hl0 hk0 h)
    have E0 := Lib.hid (fun g g' W h h' => eqBig_same p l (some ⟨g, 0, none⟩) (some ⟨g', 0, none⟩) n n n W hl0 (by omega) h h')
    have V0 : Hid ((vi l).length = n) := Lib.hid (by rw [vi_length, hl0])
    have R0 : Hid (∀ W, Below w.heap.size w W → RdS W A (vi l)) := Lib.hid (fun W hb => hA0.below hb)
    have HS := Lib.hid (fun g W h => spec_fmtB p l (some ⟨g, 0, none⟩) n n W hl0 hn0 h)
    have HI := Lib.hid (fun g W h => fun ht => impl_fmtB p l (some ⟨g, 0, none⟩) n n W hl0 hn0 h ht)
    have HTAB := Lib.hid htab
    clear htab
    clear hl0 hA0
    generalize fmtB p l = r at HS HI
    go_enter Tryd.func4, Tryd.ntmps4
    go_wp2_with fail
    have F := Fr.nil w
    have kb := Below.refl w.heap.size w
    replace F : Fr (w.alloc (.cells #[.bool p, .slice A n c] 34)) _ := F.alloc 34 [.bool p, .slice A n c]
    replace kb := kb.alloc kb.size (.cells #[.bool p, .slice A n c] 34)
    have hzW1 : w.heap.size < (w.alloc (.cells #[.bool p, .slice A n c] 34)).heap.size := by rw [sz1]; omega
    generalize w.alloc (.cells #[.bool p, .slice A n c] 34) = W1 at F kb hzW1  ⊢
    refine (SZ0.out _).mono ?_
    rintro e W2 ⟨rfl, hb⟩
    replace F := F.below hb
    replace kb := bt kb hb
    have hzW2 : W1.heap.size ≤ W2.heap.size := hb.size
    clear hb
    have e_a00 := F.get 0 0 rfl rfl
    have e_a01 := F.get 0 1 rfl rfl
    go_wp2_with fail
    clear e_a00 e_a01
    refine (T0.out _ (R0.out _ kb)).mono ?_
    rintro e W3 ⟨gw0, rfl, tqw0, hb⟩
    replace F := F.below hb
    replace kb := bt kb hb
    have hzW3 : W2.heap.size ≤ W3.heap.size := hb.size
    clear hb
    have in_tqw0 := tqw0.inR V0.out
    go_wp2_with fail
    refine (HS.out _ _ tqw0.rd).mono ?_
    rintro e W4 ⟨rfl, hb⟩
    replace F := F.below hb
    replace kb := bt kb hb
    replace tqw0 := tqw0.below hb
    have hzW4 : W3.heap.size ≤ W4.heap.size := hb.size
    clear hb
    clear tqw0 in_tqw0
    have e_a00 := F.get 0 0 rfl rfl
    have e_a01 := F.get 0 1 rfl rfl
    go_wp2_with fail
    clear e_a00 e_a01
    refine (T0.out _ (R0.out _ kb)).mono ?_
    rintro e W5 ⟨gx0, rfl, ox0, hb⟩
    replace F := F.below hb
    replace kb := bt kb hb
    have hzW5 : W4.heap.size ≤ W5.heap.size := hb.size
    clear hb
    have in_ox0 := ox0.inR V0.out
    replace F : Fr (W5.alloc (.cells #[.bool p, .slice (some ⟨gx0, 0, none⟩) n n] 37)) _ := F.alloc 37 [.bool p, .slice (some ⟨gx0, 0, none⟩) n n]
    replace kb := kb.alloc kb.size (.cells #[.bool p, .slice (some ⟨gx0, 0, none⟩) n n] 37)
    replace ox0 := ox0.below (ba1 W5 (.cells #[.bool p, .slice (some ⟨gx0, 0, none⟩) n n] 37))
    have hzW6 : W5.heap.size < (W5.alloc (.cells #[.bool p, .slice (some ⟨gx0, 0, none⟩) n n] 37)).heap.size := by rw [sz1]; omega
    have e_x00 := F.get 0 0 rfl rfl
    have e_x01 := F.get 0 1 rfl rfl
    go_wp2_with fail
    clear e_x00 e_x01
    generalize W5.alloc (.cells #[.bool p, .slice (some ⟨gx0, 0, none⟩) n n] 37) = W6 at F kb hzW6 ox0 ⊢
    refine (HI.out _ _ ox0.rd (tab_below kb HTAB.out)).mono ?_
    rintro e W7 ⟨rfl, hb⟩
    replace F := F.below hb
    replace kb := bt kb hb
    replace ox0 := ox0.below hb
    have hzW7 : W6.heap.size ≤ W7.heap.size := hb.size
    clear hb
    go_wp2_with fail
    have e_x00 := F.get 0 0 rfl rfl
    have e_x01 := F.get 0 1 rfl rfl
    have e_a00 := F.get 1 0 rfl rfl
    have e_a01 := F.get 1 1 rfl rfl
    have kr := kb
    go_region_held3 (fun w' => w'.cell? ⟨W5.heap.size, 0, none⟩ = some (.bool p) ∧ w'.cell? ⟨W5.heap.size, 1, none⟩ = some (.slice (some ⟨gx0, 0, none⟩) n n) ∧ w'.cell? ⟨w.heap.size, 0, none⟩ = some (.bool p) ∧ w'.cell? ⟨w.heap.size, 1, none⟩ = some (.slice A n c) ∧ Below W7.heap.size W7 w')
      (first | (exact ⟨e_x00, e_x01, e_a00, e_a01, (Below.refl _ _).drew⟩) | (go_split_ands; exact heldF (by assumption) (by assumption) (by assumption) (by assumption) (by assumption) hb))
      (first | (go_at_call 16; go_split_ands; ((with_reducible refine (T0.out _ (R0.out _ (bt kr (by assumption)))).mono ?_); rintro e Wa ⟨ga, rfl, owna, hb⟩)) | (go_at_call 18; go_split_ands; ((with_reducible refine (E0.out _ _ _ (ox0.below (by assumption)).rd owna.rd).mono ?_); rintro e W8 ⟨rfl, hb⟩; have KB := bt (by assumption : Below W7.heap.size W7 _) hb)))
    clear e_x00 e_x01 e_a00 e_a01
    replace F := F.below KB
    replace kb := bt kb KB
    replace ox0 := ox0.below KB
    have hzW8 : W7.heap.size ≤ W8.heap.size := KB.size
    clear KB owna kr
    try clear ‹_ ∧ _›
    go_wp2
    go_ret
    exact ⟨rfl, kb⟩
  · have SZ := Lib.hid (fun W => szBig_no p A n c 1048576 W (by omega) (by omega) hn0 hg0)
    clear hg0 hl0 hA0
    go_enter Tryd.func4, Tryd.ntmps4
    go_wp2_with fail
    refine (SZ.out _).mono ?_
    rintro e W2 ⟨rfl, hb⟩
    have kb := (ba1 _ _ ).trans (hb.mono (by rw [sz1]; omega))
    go_wp2
    go_ret
    exact ⟨rfl, kb⟩
end Go.Proofs.YtnejpdlikdgnnaaDoor
