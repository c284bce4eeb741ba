/-
  'FnExactFormatRat' returns true: its walk.
-/
import Derived.Test.YtpmndiajecmfcabDoorDkD
import Derived.Test.YtpmndiajecmfcabDoorDkE
import Derived.Deep.RegionHeld3
import Derived.Deep.DeepCutAuto
namespace Go.Proofs.YtpmndiajecmfcabDoor
open Go.ChangeShapes Go.WideShapes Go.ChangeAt Go.RowKit
open Go.ChangeMaps (open_string shut_string)
set_option linter.unusedVariables false
set_option linter.unusedSimpArgs false
set_option maxRecDepth 4000

set_option maxHeartbeats 4000000 in
theorem law_fmtR (p : Bool) (l m : List Int) (A D : Option Addr) (n c k d : Nat) (w : World) (hl0 : l.length = n) (hm0 : m.length = k) (hn0 : n ≤ 9223372036854775807) (hk0 : k ≤ 9223372036854775807) (hA0 : RdS w A (vi l)) (hD0 : RdS w D (vi m)) (htab : Lib.TabIs Tryd.prog w "internal/strconv.uint64pow10" .u64 Lib.pow10Tab) :
    Calls Tryd.prog 3 #[.agg #[.bool p, .slice A n c, .slice D k d]] w fun e w' => e = .returned (.bool true) ∧ Below w.heap.size w w' := by
  by_cases hg0 : (n : Int) + (k : Int) ≤ 1048576
  · have hj00 : n ≤ 1048576 := by omega
    have hj01 : k ≤ 1048576 := by omega
    have SZ0 := Lib.hid (fun W => szRat_yes p A D n c k d (1048576) W (by omega) (by omega) hg0)
    have hs0 : ¬ 1048576 - (n : Int) - (k : Int) < 0 := by omega
    have T0 := Lib.hid (fun W h h' => toRat_any p l m A D n c k d W hl0 hj00 h hm0 hj01 h')
    have E0 := Lib.hid (fun g g' h h' W a1 a2 a3 a4 => eqRat_same p l m (some ⟨g, 0, none⟩) (some ⟨g', 0, none⟩) (some ⟨h, 0, none⟩) (some ⟨h', 0, none⟩) n k n k n k W hl0 hm0 (by omega) (by omega) a1 a2 a3 a4)
    have V0 : Hid ((vi l).length = n ∧ (vi m).length = k) := Lib.hid ⟨by rw [vi_length, hl0], by rw [vi_length, hm0]⟩
    have R0 : Hid (∀ W, Below w.heap.size w W → RdS W A (vi l) ∧ RdS W D (vi m)) := Lib.hid (fun W hb => ⟨hA0.below hb, hD0.below hb⟩)
    have HS := Lib.hid (fun g0 h0 W r0 s0 => spec_fmtR p l m (some ⟨g0, 0, none⟩) (some ⟨h0, 0, none⟩) n k n k W hl0 hm0 hn0 hk0 r0 s0)
    have HI := Lib.hid (fun g0 h0 W r0 s0 ht => impl_fmtR p l m (some ⟨g0, 0, none⟩) (some ⟨h0, 0, none⟩) n k n k W hl0 hm0 hn0 hk0 ht r0 s0)
    have HTAB := Lib.hid htab
    clear htab
    clear hl0 hm0 hA0 hD0
    generalize fmtR p l m = r at HS HI
    go_enter Tryd.func3, Tryd.ntmps3
    go_wp2_with fail
    have F := Fr.nil w
    have kb := Below.refl w.heap.size w
    replace F : Fr (w.alloc (.cells #[.bool p, .slice A n c, .slice D k d] 26)) _ := F.alloc 26 [.bool p, .slice A n c, .slice D k d]
    replace kb := ba1 w (.cells #[.bool p, .slice A n c, .slice D k d] 26)
    have hzW1 : w.heap.size < (w.alloc (.cells #[.bool p, .slice A n c, .slice D k d] 26)).heap.size := by rw [sz1]; omega
    generalize w.alloc (.cells #[.bool p, .slice A n c, .slice D k d] 26) = W1 at F kb hzW1 ⊢
    refine (SZ0.out _).mono ?_
    rintro e W2 ⟨rfl, hb⟩
    replace F := F.below hb
    replace kb := bt kb hb
    have hzW2 : W1.heap.size ≤ W2.heap.size := hb.size
    clear hb
    have e_a00 := F.get 0 0 rfl rfl
    have e_a01 := F.get 0 1 rfl rfl
    have e_a02 := F.get 0 2 rfl rfl
    go_wp2_with fail
    clear e_a00 e_a01 e_a02
    refine (T0.out _ (R0.out _ kb).1 (R0.out _ kb).2).mono ?_
    rintro e W3 ⟨gw0, hw0, rfl, tqw0, trw0, -, hb⟩
    replace F := F.below hb
    replace kb := bt kb hb
    have hzW3 : W2.heap.size ≤ W3.heap.size := hb.size
    clear hb
    have in_tqw0 := tqw0.inR V0.out.1
    have in_trw0 := trw0.inR V0.out.2
    go_wp2_with fail
    refine (HS.out _ _ _ tqw0.rd trw0.rd).mono ?_
    rintro e W4 ⟨rfl, hb⟩
    replace F := F.below hb
    replace kb := bt kb hb
    replace tqw0 := tqw0.below hb
    replace trw0 := trw0.below hb
    have hzW4 : W3.heap.size ≤ W4.heap.size := hb.size
    clear hb
    clear tqw0 trw0 in_tqw0 in_trw0
    have e_a00 := F.get 0 0 rfl rfl
    have e_a01 := F.get 0 1 rfl rfl
    have e_a02 := F.get 0 2 rfl rfl
    go_wp2_with fail
    clear e_a00 e_a01 e_a02
    refine (T0.out _ (R0.out _ kb).1 (R0.out _ kb).2).mono ?_
    rintro e W5 ⟨gx0, gy0, rfl, ox0a, ox0b, ⟨mid0, ia0, ib0⟩, hb⟩
    replace F := F.below hb
    replace kb := bt kb hb
    have hzW5 : W4.heap.size ≤ W5.heap.size := hb.size
    clear hb
    have in_ox0a := ox0a.inR V0.out.1
    have in_ox0b := ox0b.inR V0.out.2
    have hapx0 := ia0.apart ib0 (.inl (Nat.le_refl _))
    clear ia0 ib0
    replace F : Fr (W5.alloc (.cells #[.bool p, .slice (some ⟨gx0, 0, none⟩) n n, .slice (some ⟨gy0, 0, none⟩) k k] 31)) _ := F.alloc 31 [.bool p, .slice (some ⟨gx0, 0, none⟩) n n, .slice (some ⟨gy0, 0, none⟩) k k]
    replace kb := kb.alloc kb.size (.cells #[.bool p, .slice (some ⟨gx0, 0, none⟩) n n, .slice (some ⟨gy0, 0, none⟩) k k] 31)
    replace ox0a := ox0a.below (ba1 W5 (.cells #[.bool p, .slice (some ⟨gx0, 0, none⟩) n n, .slice (some ⟨gy0, 0, none⟩) k k] 31))
    replace ox0b := ox0b.below (ba1 W5 (.cells #[.bool p, .slice (some ⟨gx0, 0, none⟩) n n, .slice (some ⟨gy0, 0, none⟩) k k] 31))
    have hzW6 : W5.heap.size < (W5.alloc (.cells #[.bool p, .slice (some ⟨gx0, 0, none⟩) n n, .slice (some ⟨gy0, 0, none⟩) k k] 31)).heap.size := by rw [sz1]; omega
    have e_x00 := F.get 0 0 rfl rfl
    have e_x01 := F.get 0 1 rfl rfl
    have e_x02 := F.get 0 2 rfl rfl
    go_wp2_with fail
    clear e_x00 e_x01 e_x02
    generalize W5.alloc (.cells #[.bool p, .slice (some ⟨gx0, 0, none⟩) n n, .slice (some ⟨gy0, 0, none⟩) k k] 31) = W6 at F kb hzW6 ox0a ox0b ⊢
    refine (HI.out _ _ _ ox0a.rd ox0b.rd (tab_below kb HTAB.out)).mono ?_
    rintro e W7 ⟨rfl, hb⟩
    replace F := F.below hb
    replace kb := bt kb hb
    replace ox0a := ox0a.below hb
    replace ox0b := ox0b.below hb
    have hzW7 : W6.heap.size ≤ W7.heap.size := hb.size
    clear hb
    go_wp2_with fail
    have e_x00 := F.get 0 0 rfl rfl
    have e_x01 := F.get 0 1 rfl rfl
    have e_x02 := F.get 0 2 rfl rfl
    have e_a00 := F.get 1 0 rfl rfl
    have e_a01 := F.get 1 1 rfl rfl
    have e_a02 := F.get 1 2 rfl rfl
    have SB : Hid (∀ w', Below W7.heap.size W7 w' → (w'.cell? ⟨W5.heap.size, 0, none⟩ = some (.bool p) ∧ w'.cell? ⟨W5.heap.size, 1, none⟩ = some (.slice (some ⟨gx0, 0, none⟩) n n) ∧ w'.cell? ⟨W5.heap.size, 2, none⟩ = some (.slice (some ⟨gy0, 0, none⟩) k k) ∧ w'.cell? ⟨w.heap.size, 0, none⟩ = some (.bool p) ∧ w'.cell? ⟨w.heap.size, 1, none⟩ = some (.slice A n c) ∧ w'.cell? ⟨w.heap.size, 2, none⟩ = some (.slice D k d) ∧ Below W7.heap.size W7 w')) := Lib.hid (fun w' hB => ⟨cell_kept e_x00 hB, cell_kept e_x01 hB, cell_kept e_x02 hB, cell_kept e_a00 hB, cell_kept e_a01 hB, cell_kept e_a02 hB, hB⟩)
    have kr := kb
    go_region_held3 (fun w' => w'.cell? ⟨W5.heap.size, 0, none⟩ = some (.bool p) ∧ w'.cell? ⟨W5.heap.size, 1, none⟩ = some (.slice (some ⟨gx0, 0, none⟩) n n) ∧ w'.cell? ⟨W5.heap.size, 2, none⟩ = some (.slice (some ⟨gy0, 0, none⟩) k k) ∧ w'.cell? ⟨w.heap.size, 0, none⟩ = some (.bool p) ∧ w'.cell? ⟨w.heap.size, 1, none⟩ = some (.slice A n c) ∧ w'.cell? ⟨w.heap.size, 2, none⟩ = some (.slice D k d) ∧ Below W7.heap.size W7 w')
      (first | (exact SB.out _ (Below.refl _ _).drew) | (exact SB.out _ (Below.refl _ _)) | (go_split_ands; exact SB.out _ (bt (by assumption : Below W7.heap.size W7 _) hb)))
      (first | (go_at_call 6; go_split_ands; ((with_reducible refine (T0.out _ (R0.out _ (bt kr (by assumption : Below W7.heap.size W7 _))).1 (R0.out _ (bt kr (by assumption : Below W7.heap.size W7 _))).2).mono ?_); rintro e Wa ⟨ga, gb, rfl, owna, ownb, -, hb⟩)) | (go_at_call 8; go_split_ands; ((with_reducible refine (E0.out _ _ _ _ _ (ox0a.below (by assumption : Below W7.heap.size W7 _)).rd (ox0b.below (by assumption : Below W7.heap.size W7 _)).rd owna.rd ownb.rd).mono ?_); rintro e W8 ⟨rfl, hb⟩; have KB := bt (by assumption : Below W7.heap.size W7 _) hb)))
    clear e_x00 e_x01 e_x02 e_a00 e_a01 e_a02
    replace F := F.below KB
    replace kb := bt kb KB
    replace ox0a := ox0a.below KB
    replace ox0b := ox0b.below KB
    have hzW8 : W7.heap.size ≤ W8.heap.size := KB.size
    clear KB kr SB owna ownb
    try clear ‹_ ∧ _›
    go_wp2
    go_ret
    exact ⟨rfl, kb⟩
  · have SZ := Lib.hid (fun W => szRat_no p A D n c k d (1048576) W (by omega) (by omega) hn0 hk0 hg0)
    clear hg0 hl0 hm0 hA0 hD0
    go_enter Tryd.func3, Tryd.ntmps3
    go_wp2_with fail
    refine (SZ.out _).mono ?_
    rintro e W2 ⟨rfl, hb⟩
    have kb := (ba1 _ _ ).trans (hb.mono (by rw [sz1]; omega))
    go_wp2
    go_ret
    exact ⟨rfl, kb⟩
end Go.Proofs.YtpmndiajecmfcabDoor
