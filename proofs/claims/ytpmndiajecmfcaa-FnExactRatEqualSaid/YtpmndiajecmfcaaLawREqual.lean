/-
  'FnExactRatEqual' returns true: its walk.
-/
import Derived.Test.YtpmndiajecmfcaaPkD
import Derived.Test.YtpmndiajecmfcaaPkI
import Derived.Deep.RegionHeld3
import Derived.Deep.DeepCutAuto
namespace Go.Proofs.Ytpmndiajecmfcaa
open Go.ChangeShapes Go.WideShapes Go.ChangeAt Go.RowKit
open Go.ChangeMaps (open_string shut_string)
set_option linter.unusedVariables false
set_option linter.unusedSimpArgs false
set_option maxRecDepth 4000

set_option maxHeartbeats 4000000 in
theorem law_requal (p : Bool) (l m : List Int) (A D : Option Addr) (n c k d : Nat) (q : Bool) (l' m' : List Int) (A' D' : Option Addr) (n' c' k' d' : Nat) (w : World) (hl0 : l.length = n) (hm0 : m.length = k) (hn0 : n ≤ 9223372036854775807) (hk0 : k ≤ 9223372036854775807) (hA0 : RdS w A (vi l)) (hD0 : RdS w D (vi m)) (hl1 : l'.length = n') (hm1 : m'.length = k') (hn1 : n' ≤ 9223372036854775807) (hk1 : k' ≤ 9223372036854775807) (hA1 : RdS w A' (vi l')) (hD1 : RdS w D' (vi m')) :
    Calls Try.prog 14 #[.agg #[.bool p, .slice A n c, .slice D k d], .agg #[.bool q, .slice A' n' c', .slice D' k' d']] w fun e w' => e = .returned (.bool true) ∧ Below w.heap.size w w' := by
  by_cases hg0 : (n : Int) + (k : Int) ≤ 1048576
  · by_cases hg1 : (n' : Int) + (k' : Int) ≤ 1048576 - (n : Int) - (k : Int)
    · have hj00 : n ≤ 1048576 := by omega
      have hj01 : k ≤ 1048576 := by omega
      have SZ0 := Lib.hid (fun W => szRat_yes p A D n c k d (1048576) W (by omega) (by omega) hg0)
      have hs0 : ¬ 1048576 - (n : Int) - (k : Int) < 0 := by omega
      have T0 := Lib.hid (fun W h h' => toRat_any p l m A D n c k d W hl0 hj00 h hm0 hj01 h')
      have E0 := Lib.hid (fun g g' h h' W a1 a2 a3 a4 => eqRat_same p l m (some ⟨g, 0, none⟩) (some ⟨g', 0, none⟩) (some ⟨h, 0, none⟩) (some ⟨h', 0, none⟩) n k n k n k W hl0 hm0 (by omega) (by omega) a1 a2 a3 a4)
      have V0 : Hid ((vi l).length = n ∧ (vi m).length = k) := Lib.hid ⟨by rw [vi_length, hl0], by rw [vi_length, hm0]⟩
      have R0 : Hid (∀ W, Below w.heap.size w W → RdS W A (vi l) ∧ RdS W D (vi m)) := Lib.hid (fun W hb => ⟨hA0.below hb, hD0.below hb⟩)
      have hj10 : n' ≤ 1048576 := by omega
      have hj11 : k' ≤ 1048576 := by omega
      have SZ1 := Lib.hid (fun W => szRat_yes q A' D' n' c' k' d' (1048576 - (n : Int) - (k : Int)) W (by omega) (by omega) hg1)
      have hs1 : ¬ 1048576 - (n : Int) - (k : Int) - (n' : Int) - (k' : Int) < 0 := by omega
      have T1 := Lib.hid (fun W h h' => toRat_any q l' m' A' D' n' c' k' d' W hl1 hj10 h hm1 hj11 h')
      have E1 := Lib.hid (fun g g' h h' W a1 a2 a3 a4 => eqRat_same q l' m' (some ⟨g, 0, none⟩) (some ⟨g', 0, none⟩) (some ⟨h, 0, none⟩) (some ⟨h', 0, none⟩) n' k' n' k' n' k' W hl1 hm1 (by omega) (by omega) a1 a2 a3 a4)
      have V1 : Hid ((vi l').length = n' ∧ (vi m').length = k') := Lib.hid ⟨by rw [vi_length, hl1], by rw [vi_length, hm1]⟩
      have R1 : Hid (∀ W, Below w.heap.size w W → RdS W A' (vi l') ∧ RdS W D' (vi m')) := Lib.hid (fun W hb => ⟨hA1.below hb, hD1.below hb⟩)
      have HS := Lib.hid (fun g0 h0 g1 h1 W r0 s0 r1 s1 => spec_req p q l m l' m' (some ⟨g0, 0, none⟩) (some ⟨h0, 0, none⟩) (some ⟨g1, 0, none⟩) (some ⟨h1, 0, none⟩) n k n' k' n k n' k' W hl0 hm0 hl1 hm1 (by omega) (by omega) (by omega) (by omega) r0 s0 r1 s1)
      have HI := Lib.hid (fun g0 h0 g1 h1 W r0 s0 r1 s1 => impl_req p q l m l' m' (some ⟨g0, 0, none⟩) (some ⟨h0, 0, none⟩) (some ⟨g1, 0, none⟩) (some ⟨h1, 0, none⟩) n k n' k' n k n' k' W hl0 hm0 hl1 hm1 (by omega) (by omega) (by omega) (by omega) (.inr ⟨_, rfl⟩) (.inr ⟨_, rfl⟩) r0 s0 r1 s1)
      clear hl0 hm0 hA0 hD0 hl1 hm1 hA1 hD1
      generalize (decide (p = q) && decide (l = l') && decide (m = m')) = r at HS HI
      have q1 : (r == r) = true := by simp
      go_enter Try.func14, Try.ntmps14
      go_wp2_with fail
      have F := Fr.nil w
      have kb := Below.refl w.heap.size w
      replace F : Fr (w.alloc (.cells #[.bool p, .slice A n c, .slice D k d] 26)) _ := F.alloc 26 [.bool p, .slice A n c, .slice D k d]
      replace F : Fr ((w.alloc (.cells #[.bool p, .slice A n c, .slice D k d] 26)).alloc (.cells #[.bool q, .slice A' n' c', .slice D' k' d'] 26)) _ := F.alloc 26 [.bool q, .slice A' n' c', .slice D' k' d']
      replace kb := ba2 w (.cells #[.bool p, .slice A n c, .slice D k d] 26) (.cells #[.bool q, .slice A' n' c', .slice D' k' d'] 26)
      have hzW1 : w.heap.size + 2 ≤ ((w.alloc (.cells #[.bool p, .slice A n c, .slice D k d] 26)).alloc (.cells #[.bool q, .slice A' n' c', .slice D' k' d'] 26)).heap.size := by rw [sz2]; omega
      rw [sz1] at F
      generalize (w.alloc (.cells #[.bool p, .slice A n c, .slice D k d] 26)).alloc (.cells #[.bool q, .slice A' n' c', .slice D' k' d'] 26) = W1 at F kb hzW1 ⊢
      refine (SZ0.out _).mono ?_
      rintro e W2 ⟨rfl, hb⟩
      replace F := F.below hb
      replace kb := bt kb hb
      have hzW2 : W1.heap.size ≤ W2.heap.size := hb.size
      clear hb
      have e_a10 := F.get 0 0 rfl rfl
      have e_a11 := F.get 0 1 rfl rfl
      have e_a12 := F.get 0 2 rfl rfl
      go_wp2_with fail
      clear e_a10 e_a11 e_a12
      refine (SZ1.out _).mono ?_
      rintro e W3 ⟨rfl, hb⟩
      replace F := F.below hb
      replace kb := bt kb hb
      have hzW3 : W2.heap.size ≤ W3.heap.size := hb.size
      clear hb
      go_wp2_with fail
      have e_a00 := F.get 1 0 rfl rfl
      have e_a01 := F.get 1 1 rfl rfl
      have e_a02 := F.get 1 2 rfl rfl
      have e_a10 := F.get 0 0 rfl rfl
      have e_a11 := F.get 0 1 rfl rfl
      have e_a12 := F.get 0 2 rfl rfl
      have SB : Hid (∀ w', Below W3.heap.size W3 w' → (w'.cell? ⟨w.heap.size, 0, none⟩ = some (.bool p) ∧ w'.cell? ⟨w.heap.size, 1, none⟩ = some (.slice A n c) ∧ w'.cell? ⟨w.heap.size, 2, none⟩ = some (.slice D k d) ∧ w'.cell? ⟨(w.heap.size + 1), 0, none⟩ = some (.bool q) ∧ w'.cell? ⟨(w.heap.size + 1), 1, none⟩ = some (.slice A' n' c') ∧ w'.cell? ⟨(w.heap.size + 1), 2, none⟩ = some (.slice D' k' d') ∧ Below W3.heap.size W3 w')) := Lib.hid (fun w' hB => ⟨cell_kept e_a00 hB, cell_kept e_a01 hB, cell_kept e_a02 hB, cell_kept e_a10 hB, cell_kept e_a11 hB, cell_kept e_a12 hB, hB⟩)
      have kr := kb
      go_region_held3 (fun w' => w'.cell? ⟨w.heap.size, 0, none⟩ = some (.bool p) ∧ w'.cell? ⟨w.heap.size, 1, none⟩ = some (.slice A n c) ∧ w'.cell? ⟨w.heap.size, 2, none⟩ = some (.slice D k d) ∧ w'.cell? ⟨(w.heap.size + 1), 0, none⟩ = some (.bool q) ∧ w'.cell? ⟨(w.heap.size + 1), 1, none⟩ = some (.slice A' n' c') ∧ w'.cell? ⟨(w.heap.size + 1), 2, none⟩ = some (.slice D' k' d') ∧ Below W3.heap.size W3 w')
        (first | (exact SB.out _ (Below.refl _ _).drew) | (exact SB.out _ (ba1 _ _).drew) | (exact SB.out _ (ba1 _ _)) | (go_split_ands; exact SB.out _ (bt (by assumption : Below W3.heap.size W3 _) hb)) | (go_split_ands; exact SB.out _ (Below.alloc (by assumption : Below W3.heap.size W3 _) (Below.size (by assumption : Below W3.heap.size W3 _)) _)) | (go_split_ands; exact SB.out _ (below_put3 (by assumption : Below W3.heap.size W3 _) (by first | exact Nat.le_refl _ | assumption) _ _ _)))
        (first | (go_at_call 19; go_split_ands; ((with_reducible refine (T0.out _ (R0.out _ (bt kr (by assumption : Below W3.heap.size W3 _))).1 (R0.out _ (bt kr (by assumption : Below W3.heap.size W3 _))).2).mono ?_); rintro e Wa ⟨ga, gb, rfl, owna, ownb, -, hb⟩; have hsA := (bt (by assumption : Below W3.heap.size W3 _) hb).size; (first | (have tt := (tt_a hb).1; have hgB := (tt_a hb).2) | (have tt := (tt_b hb).1; have hgB := (tt_b hb).2) | (have hgB := (tt_c tt hb).2; replace tt := (tt_c tt hb).1) | skip))) | (go_at_call 19; go_split_ands; ((with_reducible refine (T1.out _ (R1.out _ (bt kr (by assumption : Below W3.heap.size W3 _))).1 (R1.out _ (bt kr (by assumption : Below W3.heap.size W3 _))).2).mono ?_); rintro e Wb ⟨gc, gd, rfl, ownc, ownd, -, hb⟩; have hsB := (bt (by assumption : Below W3.heap.size W3 _) hb).size; (first | (replace owna := owna.below hb) | (replace owna := (owna.below (ba1 _ _)).below hb)); (first | (replace ownb := ownb.below hb) | (replace ownb := (ownb.below (ba1 _ _)).below hb)); (first | (have tt := (tt_a hb).1; have hgB := (tt_a hb).2) | (have tt := (tt_b hb).1; have hgB := (tt_b hb).2) | (have hgB := (tt_c tt hb).2; replace tt := (tt_c tt hb).1) | skip))) | (go_at_call 48; go_split_ands; ((with_reducible refine (HS.out _ _ _ _ _ (by first | exact owna.rd | exact (owna.below (ba1 _ _)).rd) (by first | exact ownb.rd | exact (ownb.below (ba1 _ _)).rd) (by first | exact ownc.rd | exact (ownc.below (ba1 _ _)).rd) (by first | exact ownd.rd | exact (ownd.below (ba1 _ _)).rd)).mono ?_); rintro e W4 ⟨rfl, hb⟩; have KB := bt (by assumption : Below W3.heap.size W3 _) hb)))
      clear e_a00 e_a01 e_a02 e_a10 e_a11 e_a12
      replace F := F.below KB
      replace kb := bt kb KB
      have hzW4 : W3.heap.size ≤ W4.heap.size := KB.size
      clear KB kr SB owna ownb ownc ownd
      try clear ‹_ ∧ _›
      have e_a00 := F.get 1 0 rfl rfl
      have e_a01 := F.get 1 1 rfl rfl
      have e_a02 := F.get 1 2 rfl rfl
      go_wp2_with fail
      clear e_a00 e_a01 e_a02
      refine (T0.out _ (R0.out _ kb).1 (R0.out _ kb).2).mono ?_
      rintro e W5 ⟨gx0, gy0, rfl, ox0a, ox0b, ⟨mid0, ia0, ib0⟩, hb⟩
      replace F := F.below hb
      replace kb := bt kb hb
      have hzW5 : W4.heap.size ≤ W5.heap.size := hb.size
      clear hb
      have in_ox0a := ox0a.inR V0.out.1
      have in_ox0b := ox0b.inR V0.out.2
      have hapx0 := ia0.apart ib0 (.inl (Nat.le_refl _))
      clear ia0 ib0
      replace F : Fr (W5.alloc (.cells #[.bool p, .slice (some ⟨gx0, 0, none⟩) n n, .slice (some ⟨gy0, 0, none⟩) k k] 31)) _ := F.alloc 31 [.bool p, .slice (some ⟨gx0, 0, none⟩) n n, .slice (some ⟨gy0, 0, none⟩) k k]
      replace kb := kb.alloc kb.size (.cells #[.bool p, .slice (some ⟨gx0, 0, none⟩) n n, .slice (some ⟨gy0, 0, none⟩) k k] 31)
      replace ox0a := ox0a.below (ba1 W5 (.cells #[.bool p, .slice (some ⟨gx0, 0, none⟩) n n, .slice (some ⟨gy0, 0, none⟩) k k] 31))
      replace ox0b := ox0b.below (ba1 W5 (.cells #[.bool p, .slice (some ⟨gx0, 0, none⟩) n n, .slice (some ⟨gy0, 0, none⟩) k k] 31))
      have hzW6 : W5.heap.size < (W5.alloc (.cells #[.bool p, .slice (some ⟨gx0, 0, none⟩) n n, .slice (some ⟨gy0, 0, none⟩) k k] 31)).heap.size := by rw [sz1]; omega
      have e_a10 := F.get 1 0 rfl rfl
      have e_a11 := F.get 1 1 rfl rfl
      have e_a12 := F.get 1 2 rfl rfl
      go_wp2_with fail
      clear e_a10 e_a11 e_a12
      generalize W5.alloc (.cells #[.bool p, .slice (some ⟨gx0, 0, none⟩) n n, .slice (some ⟨gy0, 0, none⟩) k k] 31) = W6 at F kb hzW6 ox0a ox0b ⊢
      refine (T1.out _ (R1.out _ kb).1 (R1.out _ kb).2).mono ?_
      rintro e W7 ⟨gx1, gy1, rfl, ox1a, ox1b, ⟨mid1, ia1, ib1⟩, hb⟩
      replace F := F.below hb
      replace kb := bt kb hb
      replace ox0a := ox0a.below hb
      replace ox0b := ox0b.below hb
      have hzW7 : W6.heap.size ≤ W7.heap.size := hb.size
      clear hb
      have in_ox1a := ox1a.inR V1.out.1
      have in_ox1b := ox1b.inR V1.out.2
      have hapx1 := ia1.apart ib1 (.inl (Nat.le_refl _))
      clear ia1 ib1
      replace F : Fr (W7.alloc (.cells #[.bool q, .slice (some ⟨gx1, 0, none⟩) n' n', .slice (some ⟨gy1, 0, none⟩) k' k'] 31)) _ := F.alloc 31 [.bool q, .slice (some ⟨gx1, 0, none⟩) n' n', .slice (some ⟨gy1, 0, none⟩) k' k']
      replace kb := kb.alloc kb.size (.cells #[.bool q, .slice (some ⟨gx1, 0, none⟩) n' n', .slice (some ⟨gy1, 0, none⟩) k' k'] 31)
      replace ox0a := ox0a.below (ba1 W7 (.cells #[.bool q, .slice (some ⟨gx1, 0, none⟩) n' n', .slice (some ⟨gy1, 0, none⟩) k' k'] 31))
      replace ox0b := ox0b.below (ba1 W7 (.cells #[.bool q, .slice (some ⟨gx1, 0, none⟩) n' n', .slice (some ⟨gy1, 0, none⟩) k' k'] 31))
      replace ox1a := ox1a.below (ba1 W7 (.cells #[.bool q, .slice (some ⟨gx1, 0, none⟩) n' n', .slice (some ⟨gy1, 0, none⟩) k' k'] 31))
      replace ox1b := ox1b.below (ba1 W7 (.cells #[.bool q, .slice (some ⟨gx1, 0, none⟩) n' n', .slice (some ⟨gy1, 0, none⟩) k' k'] 31))
      have hzW8 : W7.heap.size < (W7.alloc (.cells #[.bool q, .slice (some ⟨gx1, 0, none⟩) n' n', .slice (some ⟨gy1, 0, none⟩) k' k'] 31)).heap.size := by rw [sz1]; omega
      have e_x00 := F.get 1 0 rfl rfl
      have e_x01 := F.get 1 1 rfl rfl
      have e_x02 := F.get 1 2 rfl rfl
      have e_x10 := F.get 0 0 rfl rfl
      have e_x11 := F.get 0 1 rfl rfl
      have e_x12 := F.get 0 2 rfl rfl
      go_wp2_with fail
      clear e_x00 e_x01 e_x02 e_x10 e_x11 e_x12
      generalize W7.alloc (.cells #[.bool q, .slice (some ⟨gx1, 0, none⟩) n' n', .slice (some ⟨gy1, 0, none⟩) k' k'] 31) = W8 at F kb hzW8 ox0a ox0b ox1a ox1b ⊢
      refine (HI.out _ _ _ _ _ ox0a.rd ox0b.rd ox1a.rd ox1b.rd).mono ?_
      rintro e W9 ⟨rfl, hb⟩
      replace F := F.below hb
      replace kb := bt kb hb
      replace ox0a := ox0a.below hb
      replace ox0b := ox0b.below hb
      replace ox1a := ox1a.below hb
      replace ox1b := ox1b.below hb
      have hzW9 : W8.heap.size ≤ W9.heap.size := hb.size
      clear hb
      go_wp2_with fail
      have e_x00 := F.get 1 0 rfl rfl
      have e_x01 := F.get 1 1 rfl rfl
      have e_x02 := F.get 1 2 rfl rfl
      have e_a00 := F.get 3 0 rfl rfl
      have e_a01 := F.get 3 1 rfl rfl
      have e_a02 := F.get 3 2 rfl rfl
      have SB : Hid (∀ w', Below W9.heap.size W9 w' → (w'.cell? ⟨W5.heap.size, 0, none⟩ = some (.bool p) ∧ w'.cell? ⟨W5.heap.size, 1, none⟩ = some (.slice (some ⟨gx0, 0, none⟩) n n) ∧ w'.cell? ⟨W5.heap.size, 2, none⟩ = some (.slice (some ⟨gy0, 0, none⟩) k k) ∧ w'.cell? ⟨w.heap.size, 0, none⟩ = some (.bool p) ∧ w'.cell? ⟨w.heap.size, 1, none⟩ = some (.slice A n c) ∧ w'.cell? ⟨w.heap.size, 2, none⟩ = some (.slice D k d) ∧ Below W9.heap.size W9 w')) := Lib.hid (fun w' hB => ⟨cell_kept e_x00 hB, cell_kept e_x01 hB, cell_kept e_x02 hB, cell_kept e_a00 hB, cell_kept e_a01 hB, cell_kept e_a02 hB, hB⟩)
      have kr := kb
      go_region_held3 (fun w' => w'.cell? ⟨W5.heap.size, 0, none⟩ = some (.bool p) ∧ w'.cell? ⟨W5.heap.size, 1, none⟩ = some (.slice (some ⟨gx0, 0, none⟩) n n) ∧ w'.cell? ⟨W5.heap.size, 2, none⟩ = some (.slice (some ⟨gy0, 0, none⟩) k k) ∧ w'.cell? ⟨w.heap.size, 0, none⟩ = some (.bool p) ∧ w'.cell? ⟨w.heap.size, 1, none⟩ = some (.slice A n c) ∧ w'.cell? ⟨w.heap.size, 2, none⟩ = some (.slice D k d) ∧ Below W9.heap.size W9 w')
        (first | (exact SB.out _ (Below.refl _ _).drew) | (exact SB.out _ (Below.refl _ _)) | (go_split_ands; exact SB.out _ (bt (by assumption : Below W9.heap.size W9 _) hb)))
        (first | (go_at_call 19; go_split_ands; ((with_reducible refine (T0.out _ (R0.out _ (bt kr (by assumption : Below W9.heap.size W9 _))).1 (R0.out _ (bt kr (by assumption : Below W9.heap.size W9 _))).2).mono ?_); rintro e Wa ⟨ga, gb, rfl, owna, ownb, -, hb⟩)) | (go_at_call 21; go_split_ands; ((with_reducible refine (E0.out _ _ _ _ _ (ox0a.below (by assumption : Below W9.heap.size W9 _)).rd (ox0b.below (by assumption : Below W9.heap.size W9 _)).rd owna.rd ownb.rd).mono ?_); rintro e W10 ⟨rfl, hb⟩; have KB := bt (by assumption : Below W9.heap.size W9 _) hb)))
      clear e_x00 e_x01 e_x02 e_a00 e_a01 e_a02
      replace F := F.below KB
      replace kb := bt kb KB
      replace ox0a := ox0a.below KB
      replace ox0b := ox0b.below KB
      replace ox1a := ox1a.below KB
      replace ox1b := ox1b.below KB
      have hzW10 : W9.heap.size ≤ W10.heap.size := KB.size
      clear KB kr SB owna ownb
      try clear ‹_ ∧ _›
      go_wp2_with fail
      have e_x10 := F.get 0 0 rfl rfl
      have e_x11 := F.get 0 1 rfl rfl
      have e_x12 := F.get 0 2 rfl rfl
      have e_a10 := F.get 2 0 rfl rfl
      have e_a11 := F.get 2 1 rfl rfl
      have e_a12 := F.get 2 2 rfl rfl
      have SB : Hid (∀ w', Below W10.heap.size W10 w' → (w'.cell? ⟨W7.heap.size, 0, none⟩ = some (.bool q) ∧ w'.cell? ⟨W7.heap.size, 1, none⟩ = some (.slice (some ⟨gx1, 0, none⟩) n' n') ∧ w'.cell? ⟨W7.heap.size, 2, none⟩ = some (.slice (some ⟨gy1, 0, none⟩) k' k') ∧ w'.cell? ⟨(w.heap.size + 1), 0, none⟩ = some (.bool q) ∧ w'.cell? ⟨(w.heap.size + 1), 1, none⟩ = some (.slice A' n' c') ∧ w'.cell? ⟨(w.heap.size + 1), 2, none⟩ = some (.slice D' k' d') ∧ Below W10.heap.size W10 w')) := Lib.hid (fun w' hB => ⟨cell_kept e_x10 hB, cell_kept e_x11 hB, cell_kept e_x12 hB, cell_kept e_a10 hB, cell_kept e_a11 hB, cell_kept e_a12 hB, hB⟩)
      have kr := kb
      go_region_held3 (fun w' => w'.cell? ⟨W7.heap.size, 0, none⟩ = some (.bool q) ∧ w'.cell? ⟨W7.heap.size, 1, none⟩ = some (.slice (some ⟨gx1, 0, none⟩) n' n') ∧ w'.cell? ⟨W7.heap.size, 2, none⟩ = some (.slice (some ⟨gy1, 0, none⟩) k' k') ∧ w'.cell? ⟨(w.heap.size + 1), 0, none⟩ = some (.bool q) ∧ w'.cell? ⟨(w.heap.size + 1), 1, none⟩ = some (.slice A' n' c') ∧ w'.cell? ⟨(w.heap.size + 1), 2, none⟩ = some (.slice D' k' d') ∧ Below W10.heap.size W10 w')
        (first | (exact SB.out _ (Below.refl _ _).drew) | (exact SB.out _ (Below.refl _ _)) | (go_split_ands; exact SB.out _ (bt (by assumption : Below W10.heap.size W10 _) hb)))
        (first | (go_at_call 19; go_split_ands; ((with_reducible refine (T1.out _ (R1.out _ (bt kr (by assumption : Below W10.heap.size W10 _))).1 (R1.out _ (bt kr (by assumption : Below W10.heap.size W10 _))).2).mono ?_); rintro e Wa ⟨ga, gb, rfl, owna, ownb, -, hb⟩)) | (go_at_call 21; go_split_ands; ((with_reducible refine (E1.out _ _ _ _ _ (ox1a.below (by assumption : Below W10.heap.size W10 _)).rd (ox1b.below (by assumption : Below W10.heap.size W10 _)).rd owna.rd ownb.rd).mono ?_); rintro e W11 ⟨rfl, hb⟩; have KB := bt (by assumption : Below W10.heap.size W10 _) hb)))
      clear e_x10 e_x11 e_x12 e_a10 e_a11 e_a12
      replace F := F.below KB
      replace kb := bt kb KB
      replace ox0a := ox0a.below KB
      replace ox0b := ox0b.below KB
      replace ox1a := ox1a.below KB
      replace ox1b := ox1b.below KB
      have hzW11 : W10.heap.size ≤ W11.heap.size := KB.size
      clear KB kr SB owna ownb
      try clear ‹_ ∧ _›
      go_wp2
      go_ret
      exact ⟨rfl, kb⟩
    · have SZ0 := Lib.hid (fun W => szRat_yes p A D n c k d (1048576) W (by omega) (by omega) hg0)
      have hs0 : ¬ 1048576 - (n : Int) - (k : Int) < 0 := by omega
      have SZ1 := Lib.hid (fun W => szRat_no q A' D' n' c' k' d' (1048576 - (n : Int) - (k : Int)) W (by omega) (by omega) hn1 hk1 hg1)
      clear hg1 hl0 hm0 hA0 hD0 hl1 hm1 hA1 hD1
      go_enter Try.func14, Try.ntmps14
      go_wp2_with fail
      have F := (Fr.nil w).alloc 26 [.bool p, .slice A n c, .slice D k d]
      replace F : Fr (w.alloc (.cells #[.bool p, .slice A n c, .slice D k d] 26)) _ := F
      replace F : Fr ((w.alloc (.cells #[.bool p, .slice A n c, .slice D k d] 26)).alloc (.cells #[.bool q, .slice A' n' c', .slice D' k' d'] 26)) _ := F.alloc 26 [.bool q, .slice A' n' c', .slice D' k' d']
      have kb := ba2 w (.cells #[.bool p, .slice A n c, .slice D k d] 26) (.cells #[.bool q, .slice A' n' c', .slice D' k' d'] 26)
      rw [sz1] at F
      generalize (w.alloc (.cells #[.bool p, .slice A n c, .slice D k d] 26)).alloc (.cells #[.bool q, .slice A' n' c', .slice D' k' d'] 26) = W1 at F kb ⊢
      refine (SZ0.out _).mono ?_
      rintro e W2 ⟨rfl, hb⟩
      replace F := F.below hb
      replace kb := bt kb hb
      clear hb
      have e0 := F.get 0 0 rfl rfl
      have e1 := F.get 0 1 rfl rfl
      have e2 := F.get 0 2 rfl rfl
      go_wp2_with fail
      refine (SZ1.out _).mono ?_
      rintro e W3 ⟨rfl, hb⟩
      replace kb := bt kb hb
      go_wp2
      go_ret
      exact ⟨rfl, kb⟩
  · have SZ := Lib.hid (fun W => szRat_no p A D n c k d (1048576) W (by omega) (by omega) hn0 hk0 hg0)
    clear hg0 hl0 hm0 hA0 hD0 hl1 hm1 hA1 hD1
    go_enter Try.func14, Try.ntmps14
    go_wp2_with fail
    refine (SZ.out _).mono ?_
    rintro e W2 ⟨rfl, hb⟩
    have kb := (ba2 _ _ _ ).trans (hb.mono (by rw [sz2]; omega))
    go_wp2
    go_ret
    exact ⟨rfl, kb⟩
end Go.Proofs.Ytpmndiajecmfcaa
