/-
  'FnExactBigIntCmp' returns true: its walk.
-/
import Derived.Test.YtnejpdlikdgnnaaFrame
import Derived.Test.YtnejpdlikdgnnaaLawBOk
import Derived.Test.YtnejpdlikdgnnaaBigU
import Derived.Deep.RegionHeld3
import Derived.Deep.DeepCutAuto
namespace Go.Proofs.Ytnejpdlikdgnnaa
open Go.ChangeShapes Go.WideShapes Go.ChangeAt Go.RowKit
open Go.ChangeMaps (open_string shut_string)
set_option linter.unusedVariables false
set_option linter.unusedSimpArgs false
set_option maxRecDepth 4000

set_option maxHeartbeats 2000000 in
theorem law_bcmp (p : Bool) (l : List Int) (A : Option Addr) (n c : Nat) (q : Bool) (m : List Int) (D : Option Addr) (n' d : Nat) (w : World) (hl0 : l.length = n) (hn0 : n ≤ 9223372036854775807) (hA0 : RdS w A (vi l)) (hl1 : m.length = n') (hn1 : n' ≤ 9223372036854775807) (hA1 : RdS w D (vi m)) :
    Calls Try.prog 10 #[.agg #[.bool p, .slice A n c], .agg #[.bool q, .slice D n' d]] w fun e w' => e = .returned (.bool true) ∧ Below w.heap.size w w' := by
  by_cases hg0 : (n : Int) ≤ 1048576
  · by_cases hg1 : (n' : Int) ≤ 1048576 - (n : Int)
    · have hk0 : n ≤ 1048576 := by omega
      have SZ0 := Lib.hid (fun W => szBig_yes p A n c 1048576 W (by omega) (by omega) hg0)
      have hs0 : ¬ 1048576 - (n : Int) < 0 := by omega
      have hk1 : n' ≤ 1048576 := by omega
      have SZ1 := Lib.hid (fun W => szBig_yes q D n' d (1048576 - (n : Int)) W (by omega) (by omega) hg1)
      have hs1 : ¬ 1048576 - (n : Int) - (n' : Int) < 0 := by omega
      have T0 := Lib.hid (fun W h => toBig_any p l A n c W hl0 hk0 h)
      have E0 := Lib.hid (fun g g' W h h' => eqBig_same p l (some ⟨g, 0, none⟩) (some ⟨g', 0, none⟩) n n n W hl0 (by omega) h h')
      have V0 : Hid ((vi l).length = n) := Lib.hid (by rw [vi_length, hl0])
      have R0 : Hid (∀ W, Below w.heap.size w W → RdS W A (vi l)) := Lib.hid (fun W hb => hA0.below hb)
      have T1 := Lib.hid (fun W h => toBig_any q m D n' d W hl1 hk1 h)
      have E1 := Lib.hid (fun g g' W h h' => eqBig_same q m (some ⟨g, 0, none⟩) (some ⟨g', 0, none⟩) n' n' n' W hl1 (by omega) h h')
      have V1 : Hid ((vi m).length = n') := Lib.hid (by rw [vi_length, hl1])
      have R1 : Hid (∀ W, Below w.heap.size w W → RdS W D (vi m)) := Lib.hid (fun W hb => hA1.below hb)
      have HS := Lib.hid (fun g g' W h h' => spec_bcmp p q l m (some ⟨g, 0, none⟩) (some ⟨g', 0, none⟩) n n n' n' W hl0 hl1 hn0 hn1 h h')
      have HI := Lib.hid (fun g g' W h h' => impl_bcmp p q l m (some ⟨g, 0, none⟩) (some ⟨g', 0, none⟩) n n n' n' W hl0 hl1 hn0 hn1 h h')
      clear hl0 hA0 hl1 hA1
      generalize cmpB p l q m = r at HS HI
      have q1 : (r == r) = true := by simp
      go_enter Try.func10, Try.ntmps10
      go_wp2_with fail
      have F := Fr.nil w
      have kb := Below.refl w.heap.size w
      replace F : Fr (w.alloc (.cells #[.bool p, .slice A n c] 24)) _ := F.alloc 24 [.bool p, .slice A n c]
      replace F : Fr ((w.alloc (.cells #[.bool p, .slice A n c] 24)).alloc (.cells #[.bool q, .slice D n' d] 24)) _ := F.alloc 24 [.bool q, .slice D n' d]
      replace kb := ba2 w (.cells #[.bool p, .slice A n c] 24) (.cells #[.bool q, .slice D n' d] 24)
      have hzW1 : w.heap.size + 2 ≤ ((w.alloc (.cells #[.bool p, .slice A n c] 24)).alloc (.cells #[.bool q, .slice D n' d] 24)).heap.size := by rw [sz2]; omega
      rw [sz1] at F
      generalize (w.alloc (.cells #[.bool p, .slice A n c] 24)).alloc (.cells #[.bool q, .slice D n' d] 24) = W1 at F kb hzW1 ⊢
      refine (SZ0.out _).mono ?_
      rintro e W2 ⟨rfl, hb⟩
      replace F := F.below hb
      replace kb := bt kb hb
      have hzW2 : W1.heap.size ≤ W2.heap.size := hb.size
      clear hb
      have e_a10 := F.get 0 0 rfl rfl
      have e_a11 := F.get 0 1 rfl rfl
      go_wp2_with fail
      clear e_a10 e_a11
      refine (SZ1.out _).mono ?_
      rintro e W3 ⟨rfl, hb⟩
      replace F := F.below hb
      replace kb := bt kb hb
      have hzW3 : W2.heap.size ≤ W3.heap.size := hb.size
      clear hb
      go_wp2_with fail
      have e_a00 := F.get 1 0 rfl rfl
      have e_a01 := F.get 1 1 rfl rfl
      have e_a10 := F.get 0 0 rfl rfl
      have e_a11 := F.get 0 1 rfl rfl
      have SB : Hid (∀ w', Below W3.heap.size W3 w' → (w'.cell? ⟨w.heap.size, 0, none⟩ = some (.bool p) ∧ w'.cell? ⟨w.heap.size, 1, none⟩ = some (.slice A n c) ∧ w'.cell? ⟨(w.heap.size + 1), 0, none⟩ = some (.bool q) ∧ w'.cell? ⟨(w.heap.size + 1), 1, none⟩ = some (.slice D n' d) ∧ Below W3.heap.size W3 w')) := Lib.hid (fun w' hB => ⟨cell_kept e_a00 hB, cell_kept e_a01 hB, cell_kept e_a10 hB, cell_kept e_a11 hB, hB⟩)
      have kr := kb
      go_region_held3 (fun w' => w'.cell? ⟨w.heap.size, 0, none⟩ = some (.bool p) ∧ w'.cell? ⟨w.heap.size, 1, none⟩ = some (.slice A n c) ∧ w'.cell? ⟨(w.heap.size + 1), 0, none⟩ = some (.bool q) ∧ w'.cell? ⟨(w.heap.size + 1), 1, none⟩ = some (.slice D n' d) ∧ Below W3.heap.size W3 w')
        (first | (exact SB.out _ (Below.refl _ _).drew) | (exact SB.out _ (ba1 _ _).drew) | (go_split_ands; exact SB.out _ (bt (by assumption : Below W3.heap.size W3 _) hb)) | (go_split_ands; exact SB.out _ (Below.alloc (by assumption : Below W3.heap.size W3 _) (Below.size (by assumption : Below W3.heap.size W3 _)) _)) | (go_split_ands; exact SB.out _ (below_put (below_put (by assumption : Below W3.heap.size W3 _) (by first | exact Nat.le_refl _ | assumption) _) (by first | exact Nat.le_refl _ | assumption) _)))
        (first | (go_at_call 14; go_split_ands; ((with_reducible refine (T0.out _ (R0.out _ (bt kr (by assumption)))).mono ?_); rintro e Wa ⟨ga, rfl, owna, hb⟩; have hsA := (bt (by assumption : Below W3.heap.size W3 _) hb).size; (first | have tt := (boxTd _ _ _ _).below hb | have tt := (boxT _ _ _ _).below hb | replace tt := tt.below hb | skip))) | (go_at_call 14; go_split_ands; ((with_reducible refine (T1.out _ (R1.out _ (bt kr (by assumption)))).mono ?_); rintro e Wb ⟨gb, rfl, ownb, hb⟩; have hsB := (bt (by assumption : Below W3.heap.size W3 _) hb).size; (first | (replace owna := owna.below hb) | (replace owna := (owna.below (ba1 _ _)).below hb)); (first | have tt := (boxTd _ _ _ _).below hb | have tt := (boxT _ _ _ _).below hb | replace tt := tt.below hb | skip))) | (go_at_call 31; go_split_ands; ((with_reducible refine (HS.out _ _ _ (by (first | exact owna.rd | exact (owna.below (ba1 _ _)).rd)) (by (first | exact ownb.rd | exact (ownb.below (ba1 _ _)).rd))).mono ?_); rintro e W4 ⟨rfl, hb⟩; have KB := bt (by assumption : Below W3.heap.size W3 _) hb)))
      clear e_a00 e_a01 e_a10 e_a11
      replace F := F.below KB
      replace kb := bt kb KB
      have hzW4 : W3.heap.size ≤ W4.heap.size := KB.size
      clear KB owna ownb kr SB
      try clear ‹_ ∧ _›
      have e_a00 := F.get 1 0 rfl rfl
      have e_a01 := F.get 1 1 rfl rfl
      go_wp2_with fail
      clear e_a00 e_a01
      refine (T0.out _ (R0.out _ kb)).mono ?_
      rintro e W5 ⟨gx0, rfl, ox0, hb⟩
      replace F := F.below hb
      replace kb := bt kb hb
      have hzW5 : W4.heap.size ≤ W5.heap.size := hb.size
      clear hb
      have in_ox0 := ox0.inR V0.out
      replace F : Fr (W5.alloc (.cells #[.bool p, .slice (some ⟨gx0, 0, none⟩) n n] 27)) _ := F.alloc 27 [.bool p, .slice (some ⟨gx0, 0, none⟩) n n]
      replace kb := kb.alloc kb.size (.cells #[.bool p, .slice (some ⟨gx0, 0, none⟩) n n] 27)
      replace ox0 := ox0.below (ba1 W5 (.cells #[.bool p, .slice (some ⟨gx0, 0, none⟩) n n] 27))
      have hzW6 : W5.heap.size < (W5.alloc (.cells #[.bool p, .slice (some ⟨gx0, 0, none⟩) n n] 27)).heap.size := by rw [sz1]; omega
      have e_a10 := F.get 1 0 rfl rfl
      have e_a11 := F.get 1 1 rfl rfl
      go_wp2_with fail
      clear e_a10 e_a11
      generalize W5.alloc (.cells #[.bool p, .slice (some ⟨gx0, 0, none⟩) n n] 27) = W6 at F kb hzW6 ox0 ⊢
      refine (T1.out _ (R1.out _ kb)).mono ?_
      rintro e W7 ⟨gx1, rfl, ox1, hb⟩
      replace F := F.below hb
      replace kb := bt kb hb
      replace ox0 := ox0.below hb
      have hzW7 : W6.heap.size ≤ W7.heap.size := hb.size
      clear hb
      have in_ox1 := ox1.inR V1.out
      replace F : Fr (W7.alloc (.cells #[.bool q, .slice (some ⟨gx1, 0, none⟩) n' n'] 27)) _ := F.alloc 27 [.bool q, .slice (some ⟨gx1, 0, none⟩) n' n']
      replace kb := kb.alloc kb.size (.cells #[.bool q, .slice (some ⟨gx1, 0, none⟩) n' n'] 27)
      replace ox0 := ox0.below (ba1 W7 (.cells #[.bool q, .slice (some ⟨gx1, 0, none⟩) n' n'] 27))
      replace ox1 := ox1.below (ba1 W7 (.cells #[.bool q, .slice (some ⟨gx1, 0, none⟩) n' n'] 27))
      have hzW8 : W7.heap.size < (W7.alloc (.cells #[.bool q, .slice (some ⟨gx1, 0, none⟩) n' n'] 27)).heap.size := by rw [sz1]; omega
      have e_x00 := F.get 1 0 rfl rfl
      have e_x01 := F.get 1 1 rfl rfl
      have e_x10 := F.get 0 0 rfl rfl
      have e_x11 := F.get 0 1 rfl rfl
      go_wp2_with fail
      clear e_x00 e_x01 e_x10 e_x11
      generalize W7.alloc (.cells #[.bool q, .slice (some ⟨gx1, 0, none⟩) n' n'] 27) = W8 at F kb hzW8 ox0 ox1 ⊢
      refine (HI.out _ _ _ ox0.rd ox1.rd).mono ?_
      rintro e W9 ⟨rfl, hb⟩
      replace F := F.below hb
      replace kb := bt kb hb
      replace ox0 := ox0.below hb
      replace ox1 := ox1.below hb
      have hzW9 : W8.heap.size ≤ W9.heap.size := hb.size
      clear hb
      go_wp2_with fail
      have e_x00 := F.get 1 0 rfl rfl
      have e_x01 := F.get 1 1 rfl rfl
      have e_a00 := F.get 3 0 rfl rfl
      have e_a01 := F.get 3 1 rfl rfl
      have kr := kb
      go_region_held3 (fun w' => w'.cell? ⟨W5.heap.size, 0, none⟩ = some (.bool p) ∧ w'.cell? ⟨W5.heap.size, 1, none⟩ = some (.slice (some ⟨gx0, 0, none⟩) n n) ∧ w'.cell? ⟨w.heap.size, 0, none⟩ = some (.bool p) ∧ w'.cell? ⟨w.heap.size, 1, none⟩ = some (.slice A n c) ∧ Below W9.heap.size W9 w')
        (first | (exact ⟨e_x00, e_x01, e_a00, e_a01, (Below.refl _ _).drew⟩) | (go_split_ands; exact heldF (by assumption) (by assumption) (by assumption) (by assumption) (by assumption) hb))
        (first | (go_at_call 14; go_split_ands; ((with_reducible refine (T0.out _ (R0.out _ (bt kr (by assumption)))).mono ?_); rintro e Wa ⟨ga, rfl, owna, hb⟩)) | (go_at_call 16; go_split_ands; ((with_reducible refine (E0.out _ _ _ (ox0.below (by assumption)).rd owna.rd).mono ?_); rintro e W10 ⟨rfl, hb⟩; have KB := bt (by assumption : Below W9.heap.size W9 _) hb)))
      clear e_x00 e_x01 e_a00 e_a01
      replace F := F.below KB
      replace kb := bt kb KB
      replace ox0 := ox0.below KB
      replace ox1 := ox1.below KB
      have hzW10 : W9.heap.size ≤ W10.heap.size := KB.size
      clear KB owna kr
      try clear ‹_ ∧ _›
      go_wp2_with fail
      have e_x10 := F.get 0 0 rfl rfl
      have e_x11 := F.get 0 1 rfl rfl
      have e_a10 := F.get 2 0 rfl rfl
      have e_a11 := F.get 2 1 rfl rfl
      have kr := kb
      go_region_held3 (fun w' => w'.cell? ⟨W7.heap.size, 0, none⟩ = some (.bool q) ∧ w'.cell? ⟨W7.heap.size, 1, none⟩ = some (.slice (some ⟨gx1, 0, none⟩) n' n') ∧ w'.cell? ⟨(w.heap.size + 1), 0, none⟩ = some (.bool q) ∧ w'.cell? ⟨(w.heap.size + 1), 1, none⟩ = some (.slice D n' d) ∧ Below W10.heap.size W10 w')
        (first | (exact ⟨e_x10, e_x11, e_a10, e_a11, (Below.refl _ _).drew⟩) | (go_split_ands; exact heldF (by assumption) (by assumption) (by assumption) (by assumption) (by assumption) hb))
        (first | (go_at_call 14; go_split_ands; ((with_reducible refine (T1.out _ (R1.out _ (bt kr (by assumption)))).mono ?_); rintro e Wa ⟨ga, rfl, owna, hb⟩)) | (go_at_call 16; go_split_ands; ((with_reducible refine (E1.out _ _ _ (ox1.below (by assumption)).rd owna.rd).mono ?_); rintro e W11 ⟨rfl, hb⟩; have KB := bt (by assumption : Below W10.heap.size W10 _) hb)))
      clear e_x10 e_x11 e_a10 e_a11
      replace F := F.below KB
      replace kb := bt kb KB
      replace ox0 := ox0.below KB
      replace ox1 := ox1.below KB
      have hzW11 : W10.heap.size ≤ W11.heap.size := KB.size
      clear KB owna kr
      try clear ‹_ ∧ _›
      go_wp2
      go_ret
      exact ⟨rfl, kb⟩
    · have SZ0 := Lib.hid (fun W => szBig_yes p A n c 1048576 W (by omega) (by omega) hg0)
      have hs0 : ¬ 1048576 - (n : Int) < 0 := by omega
      have SZ1 := Lib.hid (fun W => szBig_no q D n' d (1048576 - (n : Int)) W (by omega) (by omega) hn1 hg1)
      clear hg1 hl0 hA0 hl1 hA1
      go_enter Try.func10, Try.ntmps10
      go_wp2_with fail
      have F := (Fr.nil w).alloc 24 [.bool p, .slice A n c]
      replace F : Fr (w.alloc (.cells #[.bool p, .slice A n c] 24)) _ := F
      replace F : Fr ((w.alloc (.cells #[.bool p, .slice A n c] 24)).alloc (.cells #[.bool q, .slice D n' d] 24)) _ := F.alloc 24 [.bool q, .slice D n' d]
      have kb := ba2 w (.cells #[.bool p, .slice A n c] 24) (.cells #[.bool q, .slice D n' d] 24)
      rw [sz1] at F
      generalize (w.alloc (.cells #[.bool p, .slice A n c] 24)).alloc (.cells #[.bool q, .slice D n' d] 24) = W1 at F kb ⊢
      refine (SZ0.out _).mono ?_
      rintro e W2 ⟨rfl, hb⟩
      replace F := F.below hb
      replace kb := bt kb hb
      clear hb
      have e0 := F.get 0 0 rfl rfl
      have e1 := F.get 0 1 rfl rfl
      go_wp2_with fail
      refine (SZ1.out _).mono ?_
      rintro e W3 ⟨rfl, hb⟩
      replace kb := bt kb hb
      go_wp2
      go_ret
      exact ⟨rfl, kb⟩
  · have SZ := Lib.hid (fun W => szBig_no p A n c 1048576 W (by omega) (by omega) hn0 hg0)
    clear hg0 hl0 hA0 hl1 hA1
    go_enter Try.func10, Try.ntmps10
    go_wp2_with fail
    refine (SZ.out _).mono ?_
    rintro e W2 ⟨rfl, hb⟩
    have kb := (ba2 _ _ _ ).trans (hb.mono (by rw [sz2]; omega))
    go_wp2
    go_ret
    exact ⟨rfl, kb⟩
end Go.Proofs.Ytnejpdlikdgnnaa
