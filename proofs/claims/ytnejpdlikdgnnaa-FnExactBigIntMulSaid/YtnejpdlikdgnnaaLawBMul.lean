/-
  'FnExactBigIntMul' returns true: its walk.
-/
import Derived.Test.YtnejpdlikdgnnaaFrame
import Derived.Test.YtnejpdlikdgnnaaLawBOk
import Derived.Test.YtnejpdlikdgnnaaBigT
import Derived.Deep.RegionHeld3
import Derived.Deep.DeepCutAuto
namespace Go.Proofs.Ytnejpdlikdgnnaa
open Go.ChangeShapes Go.WideShapes Go.ChangeAt Go.RowKit
open Go.ChangeMaps (open_string shut_string)
set_option linter.unusedVariables false
set_option linter.unusedSimpArgs false
set_option maxRecDepth 4000

set_option maxHeartbeats 2000000 in
theorem law_bmul (p : Bool) (l : List Int) (A : Option Addr) (n c : Nat) (q : Bool) (m : List Int) (D : Option Addr) (n' d : Nat) (w : World) (hl0 : l.length = n) (hn0 : n ≤ 9223372036854775807) (hA0 : RdS w A (vi l)) (hl1 : m.length = n') (hn1 : n' ≤ 9223372036854775807) (hA1 : RdS w D (vi m)) :
    Calls Try.prog 9 #[.agg #[.bool p, .slice A n c], .agg #[.bool q, .slice D n' d]] w fun e w' => e = .returned (.bool true) ∧ Below w.heap.size w w' := by
  by_cases hg0 : (n : Int) ≤ 1048576
  · by_cases hg1 : (n' : Int) ≤ 1048576 - (n : Int)
    · have hk0 : n ≤ 1048576 := by omega
      have SZ0 := Lib.hid (fun W => szBig_yes p A n c 1048576 W (by omega) (by omega) hg0)
      have hs0 : ¬ 1048576 - (n : Int) < 0 := by omega
      have hk1 : n' ≤ 1048576 := by omega
      have SZ1 := Lib.hid (fun W => szBig_yes q D n' d (1048576 - (n : Int)) W (by omega) (by omega) hg1)
      have hs1 : ¬ 1048576 - (n : Int) - (n' : Int) < 0 := by omega
      have T0 := Lib.hid (fun W h => toBig_any p l A n c W hl0 hk0 h)
      have E0 := Lib.hid (fun g g' W h h' => eqBig_same p l (some ⟨g, 0, none⟩) (some ⟨g', 0, none⟩) n n n W hl0 (by omega) h h')
      have M0 := Lib.hid (fun B g W h => markBig_any B p (vi l) (some ⟨g, 0, none⟩) n n 1 W (by rw [vi_length, hl0]) (by omega) (by omega) h)
      have V0 : Hid ((vi l).length = n) := Lib.hid (by rw [vi_length, hl0])
      have R0 : Hid (∀ W, Below w.heap.size w W → RdS W A (vi l)) := Lib.hid (fun W hb => hA0.below hb)
      have T1 := Lib.hid (fun W h => toBig_any q m D n' d W hl1 hk1 h)
      have E1 := Lib.hid (fun g g' W h h' => eqBig_same q m (some ⟨g, 0, none⟩) (some ⟨g', 0, none⟩) n' n' n' W hl1 (by omega) h h')
      have M1 := Lib.hid (fun B g W h => markBig_any B q (vi m) (some ⟨g, 0, none⟩) n' n' (1 + (n : Int)) W (by rw [vi_length, hl1]) (by omega) (by omega) h)
      have V1 : Hid ((vi m).length = n') := Lib.hid (by rw [vi_length, hl1])
      have R1 : Hid (∀ W, Below w.heap.size w W → RdS W D (vi m)) := Lib.hid (fun W hb => hA1.below hb)
      have HS := Lib.hid (fun g g' W h h' => spec_bmul p q l m (some ⟨g, 0, none⟩) (some ⟨g', 0, none⟩) n n n' n' W hl0 hl1 hn0 hn1 (Nat.le_refl _) h h')
      have HI := Lib.hid (fun g g' W h h' => impl_bmul p q l m (some ⟨g, 0, none⟩) (some ⟨g', 0, none⟩) n n n' n' W hl0 hl1 hn0 hn1 h h')
      have hlen : (zm (binZ (fun x y => czi (x * y)) p l q m)).length ≤ 1048576 := binZ_len (fun x y => x * y) p q l m
      clear hl0 hA0 hl1 hA1
      unfold MadeZ at HS HI
      generalize zm (binZ (fun x y => czi (x * y)) p l q m) = L at HS HI hlen
      generalize zn (binZ (fun x y => czi (x * y)) p l q m) = s at HS HI
      have HE := Lib.hid (fun A D c d W h h' => eqBig_same s L A D L.length c d W rfl (by omega) h h')
      have HM : Hid (∀ B A c W, OwnS B W A (vi L) → Calls Try.prog 19 #[.agg #[.bool s, .slice A L.length c], .int .i64 1] W fun e w' => e = .returned (.int .i64 (mk1 L.length)) ∧ OwnS B w' A (vi (marks 1 L.length)) ∧ W.grownBy w' (rowOf L.length A)) := Lib.hid (fun B A c W h => markBig_any B s (vi L) A L.length c 1 W (vi_length L) (by omega) (by omega) h)
      have HH : Hid (∀ A c W, RdS W A (vi (marks 1 L.length)) → Calls Try.prog 20 #[.agg #[.bool s, .slice A L.length c], .int .i64 1] W fun e w' => e = .returned (.int .i64 (mk1 L.length)) ∧ Below W.heap.size W w') := Lib.hid (fun A c W h => heldBig_any s A L.length c 1 W (by omega) (by omega) h)
      have VL : Hid ((vi L).length = L.length ∧ (vi (marks 1 L.length)).length = L.length) := Lib.hid ⟨vi_length L, by rw [vi_length, marks_length]⟩
      have hl0 := mk1_pos L.length
      have hl1 : ¬ mk1 L.length < 0 := by omega
      go_enter Try.func9, Try.ntmps9
      go_wp2_with fail
      have F := Fr.nil w
      have kb := Below.refl w.heap.size w
      replace F : Fr (w.alloc (.cells #[.bool p, .slice A n c] 24)) _ := F.alloc 24 [.bool p, .slice A n c]
      replace F : Fr ((w.alloc (.cells #[.bool p, .slice A n c] 24)).alloc (.cells #[.bool q, .slice D n' d] 24)) _ := F.alloc 24 [.bool q, .slice D n' d]
      replace kb := ba2 w (.cells #[.bool p, .slice A n c] 24) (.cells #[.bool q, .slice D n' d] 24)
      have hzW1 : w.heap.size + 2 ≤ ((w.alloc (.cells #[.bool p, .slice A n c] 24)).alloc (.cells #[.bool q, .slice D n' d] 24)).heap.size := by rw [sz2]; omega
      rw [sz1] at F
      generalize (w.alloc (.cells #[.bool p, .slice A n c] 24)).alloc (.cells #[.bool q, .slice D n' d] 24) = W1 at F kb hzW1 ⊢
      refine (SZ0.out _).mono ?_
      rintro e W2 ⟨rfl, hb⟩
      replace F := F.below hb
      replace kb := bt kb hb
      have hzW2 : W1.heap.size ≤ W2.heap.size := hb.size
      clear hb
      have e_a10 := F.get 0 0 rfl rfl
      have e_a11 := F.get 0 1 rfl rfl
      go_wp2_with fail
      clear e_a10 e_a11
      refine (SZ1.out _).mono ?_
      rintro e W3 ⟨rfl, hb⟩
      replace F := F.below hb
      replace kb := bt kb hb
      have hzW3 : W2.heap.size ≤ W3.heap.size := hb.size
      clear hb
      go_wp2_with fail
      have e_a00 := F.get 1 0 rfl rfl
      have e_a01 := F.get 1 1 rfl rfl
      have e_a10 := F.get 0 0 rfl rfl
      have e_a11 := F.get 0 1 rfl rfl
      have SB : Hid (∀ w', Below W3.heap.size W3 w' → (w'.cell? ⟨w.heap.size, 0, none⟩ = some (.bool p) ∧ w'.cell? ⟨w.heap.size, 1, none⟩ = some (.slice A n c) ∧ w'.cell? ⟨(w.heap.size + 1), 0, none⟩ = some (.bool q) ∧ w'.cell? ⟨(w.heap.size + 1), 1, none⟩ = some (.slice D n' d) ∧ Below W3.heap.size W3 w')) := Lib.hid (fun w' hB => ⟨cell_kept e_a00 hB, cell_kept e_a01 hB, cell_kept e_a10 hB, cell_kept e_a11 hB, hB⟩)
      have kr := kb
      go_cut [6] (fun sv wx => CutB W3 s L sv wx)
      case first =>
        go_region_held3 (fun w' => w'.cell? ⟨w.heap.size, 0, none⟩ = some (.bool p) ∧ w'.cell? ⟨w.heap.size, 1, none⟩ = some (.slice A n c) ∧ w'.cell? ⟨(w.heap.size + 1), 0, none⟩ = some (.bool q) ∧ w'.cell? ⟨(w.heap.size + 1), 1, none⟩ = some (.slice D n' d) ∧ Below W3.heap.size W3 w')
          (first | (exact SB.out _ (Below.refl _ _).drew) | (exact SB.out _ (ba1 _ _).drew) | (go_split_ands; exact SB.out _ (bt (by assumption : Below W3.heap.size W3 _) hb)) | (go_split_ands; exact SB.out _ (Below.alloc (by assumption : Below W3.heap.size W3 _) (Below.size (by assumption : Below W3.heap.size W3 _)) _)) | (go_split_ands; exact SB.out _ (below_put (below_put (by assumption : Below W3.heap.size W3 _) (by first | exact Nat.le_refl _ | assumption) _) (by first | exact Nat.le_refl _ | assumption) _)))
          (first | (go_at_call 14; go_split_ands; ((with_reducible refine (T0.out _ (R0.out _ (bt kr (by assumption)))).mono ?_); rintro e Wa ⟨ga, rfl, owna, hb⟩; have hsA := (bt (by assumption : Below W3.heap.size W3 _) hb).size; (first | have tt := (boxTd _ _ _ _).below hb | have tt := (boxT _ _ _ _).below hb | replace tt := tt.below hb | skip))) | (go_at_call 14; go_split_ands; ((with_reducible refine (T1.out _ (R1.out _ (bt kr (by assumption)))).mono ?_); rintro e Wb ⟨gb, rfl, ownb, hb⟩; have hsB := (bt (by assumption : Below W3.heap.size W3 _) hb).size; (first | (replace owna := owna.below hb) | (replace owna := (owna.below (ba1 _ _)).below hb)); (first | have tt := (boxTd _ _ _ _).below hb | have tt := (boxT _ _ _ _).below hb | replace tt := tt.below hb | skip))) | (go_at_call 29; go_split_ands; ((with_reducible refine (HS.out _ _ _ (by (first | exact owna.rd | exact (owna.below (ba1 _ _)).rd)) (by (first | exact ownb.rd | exact (ownb.below (ba1 _ _)).rd))).mono ?_); rintro e W4 ⟨Aw0, cw0, rfl, hcw0, ow0, hb⟩; have KB0 := (by assumption : Below W3.heap.size W3 _); have KB := bt KB0 hb; have hsC := KB.size; have hO1 := ow0.more KB0.size; (first | (have hOO := Two.own (boxT _ _ _ _) ow0 KB0; have tt := (boxT _ _ _ _).below hb; obtain ⟨u0, u1, t1, t2, t3, t4⟩ := tt) | (have hOO := Two.own tt ow0 KB0; replace tt := tt.below hb; obtain ⟨u0, u1, t1, t2, t3, t4⟩ := tt) | skip))))
        all_goals (go_wp2_with fail; go_meet; first | exact ⟨_, Aw0, cw0, rfl, hsC, by rw [sz1]; omega, cells_new _ _ [.bool s, .slice Aw0 L.length cw0], hO1.below (ba1 _ _), KB.alloc KB.size _⟩ | exact ⟨_, Aw0, cw0, rfl, by first | exact Nat.le_refl _ | assumption, lt_put2 t1, cells_put2 t1 t2, hOO _ _, below_put (below_put KB (by first | exact Nat.le_refl _ | assumption) _) (by first | exact Nat.le_refl _ | assumption) _⟩)
      case rest =>
        obtain ⟨gvw0, Aw0, cw0, rfl, hlow0, hhiw0, hcl, ow0, KB⟩ := hcut
        obtain ⟨W4, hWn⟩ : ∃ W', W' = wc := ⟨_, rfl⟩
        subst hWn
        clear e_a00 e_a01 e_a10 e_a11
        replace F := Fr.cons hcl (F.below KB)
        replace kb := bt kb KB
        have hzW4 : W3.heap.size ≤ W4.heap.size := KB.size
        have in_ow0 := ow0.inR VL.out.1
        clear KB kr SB hcl
        have e_a00 := F.get 2 0 rfl rfl
        have e_a01 := F.get 2 1 rfl rfl
        go_wp2_with fail
        clear e_a00 e_a01
        refine (T0.out _ (R0.out _ kb)).mono ?_
        rintro e W5 ⟨gx0, rfl, ox0, hb⟩
        replace F := F.below hb
        replace kb := bt kb hb
        replace ow0 := ow0.below hb
        have hzW5 : W4.heap.size ≤ W5.heap.size := hb.size
        clear hb
        have in_ox0 := ox0.inR V0.out
        replace F : Fr (W5.alloc (.cells #[.bool p, .slice (some ⟨gx0, 0, none⟩) n n] 27)) _ := F.alloc 27 [.bool p, .slice (some ⟨gx0, 0, none⟩) n n]
        replace kb := kb.alloc kb.size (.cells #[.bool p, .slice (some ⟨gx0, 0, none⟩) n n] 27)
        replace ow0 := ow0.below (ba1 W5 (.cells #[.bool p, .slice (some ⟨gx0, 0, none⟩) n n] 27))
        replace ox0 := ox0.below (ba1 W5 (.cells #[.bool p, .slice (some ⟨gx0, 0, none⟩) n n] 27))
        have hzW6 : W5.heap.size < (W5.alloc (.cells #[.bool p, .slice (some ⟨gx0, 0, none⟩) n n] 27)).heap.size := by rw [sz1]; omega
        have e_a10 := F.get 2 0 rfl rfl
        have e_a11 := F.get 2 1 rfl rfl
        go_wp2_with fail
        clear e_a10 e_a11
        generalize W5.alloc (.cells #[.bool p, .slice (some ⟨gx0, 0, none⟩) n n] 27) = W6 at F kb hzW6 ow0 ox0 ⊢
        refine (T1.out _ (R1.out _ kb)).mono ?_
        rintro e W7 ⟨gx1, rfl, ox1, hb⟩
        replace F := F.below hb
        replace kb := bt kb hb
        replace ow0 := ow0.below hb
        replace ox0 := ox0.below hb
        have hzW7 : W6.heap.size ≤ W7.heap.size := hb.size
        clear hb
        have in_ox1 := ox1.inR V1.out
        replace F : Fr (W7.alloc (.cells #[.bool q, .slice (some ⟨gx1, 0, none⟩) n' n'] 27)) _ := F.alloc 27 [.bool q, .slice (some ⟨gx1, 0, none⟩) n' n']
        replace kb := kb.alloc kb.size (.cells #[.bool q, .slice (some ⟨gx1, 0, none⟩) n' n'] 27)
        replace ow0 := ow0.below (ba1 W7 (.cells #[.bool q, .slice (some ⟨gx1, 0, none⟩) n' n'] 27))
        replace ox0 := ox0.below (ba1 W7 (.cells #[.bool q, .slice (some ⟨gx1, 0, none⟩) n' n'] 27))
        replace ox1 := ox1.below (ba1 W7 (.cells #[.bool q, .slice (some ⟨gx1, 0, none⟩) n' n'] 27))
        have hzW8 : W7.heap.size < (W7.alloc (.cells #[.bool q, .slice (some ⟨gx1, 0, none⟩) n' n'] 27)).heap.size := by rw [sz1]; omega
        have e_x00 := F.get 1 0 rfl rfl
        have e_x01 := F.get 1 1 rfl rfl
        have e_x10 := F.get 0 0 rfl rfl
        have e_x11 := F.get 0 1 rfl rfl
        go_wp2_with fail
        clear e_x00 e_x01 e_x10 e_x11
        generalize W7.alloc (.cells #[.bool q, .slice (some ⟨gx1, 0, none⟩) n' n'] 27) = W8 at F kb hzW8 ow0 ox0 ox1 ⊢
        refine (HI.out _ _ _ ox0.rd ox1.rd).mono ?_
        rintro e W9 ⟨Ag0, cg0, rfl, hcg0, og0, hb⟩
        replace F := F.below hb
        replace kb := bt kb hb
        replace ow0 := ow0.below hb
        replace ox0 := ox0.below hb
        replace ox1 := ox1.below hb
        have hzW9 : W8.heap.size ≤ W9.heap.size := hb.size
        clear hb
        have in_og0 := og0.inR VL.out.1
        replace F : Fr (W9.alloc (.cells #[.bool s, .slice Ag0 L.length cg0] 27)) _ := F.alloc 27 [.bool s, .slice Ag0 L.length cg0]
        replace kb := kb.alloc kb.size (.cells #[.bool s, .slice Ag0 L.length cg0] 27)
        replace ow0 := ow0.below (ba1 W9 (.cells #[.bool s, .slice Ag0 L.length cg0] 27))
        replace ox0 := ox0.below (ba1 W9 (.cells #[.bool s, .slice Ag0 L.length cg0] 27))
        replace ox1 := ox1.below (ba1 W9 (.cells #[.bool s, .slice Ag0 L.length cg0] 27))
        replace og0 := og0.below (ba1 W9 (.cells #[.bool s, .slice Ag0 L.length cg0] 27))
        have hzW10 : W9.heap.size < (W9.alloc (.cells #[.bool s, .slice Ag0 L.length cg0] 27)).heap.size := by rw [sz1]; omega
        have e_g00 := F.get 0 0 rfl rfl
        have e_g01 := F.get 0 1 rfl rfl
        have e_w00 := F.get 3 0 rfl rfl
        have e_w01 := F.get 3 1 rfl rfl
        go_wp2_with fail
        clear e_g00 e_g01 e_w00 e_w01
        generalize W9.alloc (.cells #[.bool s, .slice Ag0 L.length cg0] 27) = W10 at F kb hzW10 ow0 ox0 ox1 og0 ⊢
        refine (HE.out _ _ _ _ _ og0.rd ow0.rd).mono ?_
        rintro e W11 ⟨rfl, hb⟩
        replace F := F.below hb
        replace kb := bt kb hb
        replace ow0 := ow0.below hb
        replace ox0 := ox0.below hb
        replace ox1 := ox1.below hb
        replace og0 := og0.below hb
        have hzW11 : W10.heap.size ≤ W11.heap.size := hb.size
        clear hb
        go_wp2_with fail
        have e_x00 := F.get 2 0 rfl rfl
        have e_x01 := F.get 2 1 rfl rfl
        have e_a00 := F.get 5 0 rfl rfl
        have e_a01 := F.get 5 1 rfl rfl
        have kr := kb
        go_region_held3 (fun w' => w'.cell? ⟨W5.heap.size, 0, none⟩ = some (.bool p) ∧ w'.cell? ⟨W5.heap.size, 1, none⟩ = some (.slice (some ⟨gx0, 0, none⟩) n n) ∧ w'.cell? ⟨w.heap.size, 0, none⟩ = some (.bool p) ∧ w'.cell? ⟨w.heap.size, 1, none⟩ = some (.slice A n c) ∧ Below W11.heap.size W11 w')
          (first | (exact ⟨e_x00, e_x01, e_a00, e_a01, (Below.refl _ _).drew⟩) | (go_split_ands; exact heldF (by assumption) (by assumption) (by assumption) (by assumption) (by assumption) hb))
          (first | (go_at_call 14; go_split_ands; ((with_reducible refine (T0.out _ (R0.out _ (bt kr (by assumption)))).mono ?_); rintro e Wa ⟨ga, rfl, owna, hb⟩)) | (go_at_call 16; go_split_ands; ((with_reducible refine (E0.out _ _ _ (ox0.below (by assumption)).rd owna.rd).mono ?_); rintro e W12 ⟨rfl, hb⟩; have KB := bt (by assumption : Below W11.heap.size W11 _) hb)))
        clear e_x00 e_x01 e_a00 e_a01
        replace F := F.below KB
        replace kb := bt kb KB
        replace ow0 := ow0.below KB
        replace ox0 := ox0.below KB
        replace ox1 := ox1.below KB
        replace og0 := og0.below KB
        have hzW12 : W11.heap.size ≤ W12.heap.size := KB.size
        clear KB owna kr
        try clear ‹_ ∧ _›
        go_wp2_with fail
        have e_x10 := F.get 1 0 rfl rfl
        have e_x11 := F.get 1 1 rfl rfl
        have e_a10 := F.get 4 0 rfl rfl
        have e_a11 := F.get 4 1 rfl rfl
        have kr := kb
        go_region_held3 (fun w' => w'.cell? ⟨W7.heap.size, 0, none⟩ = some (.bool q) ∧ w'.cell? ⟨W7.heap.size, 1, none⟩ = some (.slice (some ⟨gx1, 0, none⟩) n' n') ∧ w'.cell? ⟨(w.heap.size + 1), 0, none⟩ = some (.bool q) ∧ w'.cell? ⟨(w.heap.size + 1), 1, none⟩ = some (.slice D n' d) ∧ Below W12.heap.size W12 w')
          (first | (exact ⟨e_x10, e_x11, e_a10, e_a11, (Below.refl _ _).drew⟩) | (go_split_ands; exact heldF (by assumption) (by assumption) (by assumption) (by assumption) (by assumption) hb))
          (first | (go_at_call 14; go_split_ands; ((with_reducible refine (T1.out _ (R1.out _ (bt kr (by assumption)))).mono ?_); rintro e Wa ⟨ga, rfl, owna, hb⟩)) | (go_at_call 16; go_split_ands; ((with_reducible refine (E1.out _ _ _ (ox1.below (by assumption)).rd owna.rd).mono ?_); rintro e W13 ⟨rfl, hb⟩; have KB := bt (by assumption : Below W12.heap.size W12 _) hb)))
        clear e_x10 e_x11 e_a10 e_a11
        replace F := F.below KB
        replace kb := bt kb KB
        replace ow0 := ow0.below KB
        replace ox0 := ox0.below KB
        replace ox1 := ox1.below KB
        replace og0 := og0.below KB
        have hzW13 : W12.heap.size ≤ W13.heap.size := KB.size
        clear KB owna kr
        try clear ‹_ ∧ _›
        have e_x00 := F.get 2 0 rfl rfl
        have e_x01 := F.get 2 1 rfl rfl
        go_wp2_with fail
        clear e_x00 e_x01
        refine (M0.out _ _ _ ox0).mono ?_
        rintro e W14 ⟨rfl, ox0q, hgr⟩
        replace F := F.grownR in_ox0 hgr (by intro x hx; simp only [List.mem_cons, List.not_mem_nil, or_false] at hx; rcases hx with rfl | rfl | rfl | rfl | rfl | rfl <;> (dsimp only; omega))
        replace kb := below_grownR kb in_ox0 hgr (by omega)
        replace ow0 := ow0.apartR VL.out.1 in_ow0 in_ox0 hgr (by omega)
        replace ox1 := ox1.apartR V1.out in_ox1 in_ox0 hgr (by omega)
        replace og0 := og0.apartR VL.out.1 in_og0 in_ox0 hgr (by omega)
        have hzW14 : W13.heap.size ≤ W14.heap.size := hgr.size
        clear hgr
        clear ox0 ox0q in_ox0
        have e_x10 := F.get 1 0 rfl rfl
        have e_x11 := F.get 1 1 rfl rfl
        go_wp2_with fail
        clear e_x10 e_x11
        refine (M1.out _ _ _ ox1).mono ?_
        rintro e W15 ⟨rfl, ox1q, hgr⟩
        replace F := F.grownR in_ox1 hgr (by intro x hx; simp only [List.mem_cons, List.not_mem_nil, or_false] at hx; rcases hx with rfl | rfl | rfl | rfl | rfl | rfl <;> (dsimp only; omega))
        replace kb := below_grownR kb in_ox1 hgr (by omega)
        replace ow0 := ow0.apartR VL.out.1 in_ow0 in_ox1 hgr (by omega)
        replace og0 := og0.apartR VL.out.1 in_og0 in_ox1 hgr (by omega)
        have hzW15 : W14.heap.size ≤ W15.heap.size := hgr.size
        clear hgr
        clear ox1 ox1q in_ox1
        have hkp : ¬ (1 + (n : Int) + (n' : Int)) < 0 := by omega
        have e_g00 := F.get 0 0 rfl rfl
        have e_g01 := F.get 0 1 rfl rfl
        have e_w00 := F.get 3 0 rfl rfl
        have e_w01 := F.get 3 1 rfl rfl
        go_wp2_with fail
        clear e_g00 e_g01 e_w00 e_w01
        refine (HE.out _ _ _ _ _ og0.rd ow0.rd).mono ?_
        rintro e W16 ⟨rfl, hb⟩
        replace F := F.below hb
        replace kb := bt kb hb
        replace ow0 := ow0.below hb
        replace og0 := og0.below hb
        have hzW16 : W15.heap.size ≤ W16.heap.size := hb.size
        clear hb
        have e_g00 := F.get 0 0 rfl rfl
        have e_g01 := F.get 0 1 rfl rfl
        go_wp2_with fail
        clear e_g00 e_g01
        refine (HM.out _ _ _ _ og0).mono ?_
        rintro e W17 ⟨rfl, og0q, hgr⟩
        replace F := F.grownR in_og0 hgr (by intro x hx; simp only [List.mem_cons, List.not_mem_nil, or_false] at hx; rcases hx with rfl | rfl | rfl | rfl | rfl | rfl <;> (dsimp only; omega))
        replace kb := below_grownR kb in_og0 hgr (by omega)
        replace ow0 := ow0.apartR VL.out.1 in_ow0 in_og0 hgr (by omega)
        have hzW17 : W16.heap.size ≤ W17.heap.size := hgr.size
        clear hgr
        clear og0
        have og0 := og0q
        clear og0q
        have e_g00 := F.get 0 0 rfl rfl
        have e_g01 := F.get 0 1 rfl rfl
        go_wp2_with fail
        clear e_g00 e_g01
        refine (HH.out _ _ _ og0.rd).mono ?_
        rintro e W18 ⟨rfl, hb⟩
        replace F := F.below hb
        replace kb := bt kb hb
        replace ow0 := ow0.below hb
        replace og0 := og0.below hb
        have hzW18 : W17.heap.size ≤ W18.heap.size := hb.size
        clear hb
        go_wp2_with fail
        have e_a00 := F.get 5 0 rfl rfl
        have e_a01 := F.get 5 1 rfl rfl
        have e_a10 := F.get 4 0 rfl rfl
        have e_a11 := F.get 4 1 rfl rfl
        have SB : Hid (∀ w', Below W18.heap.size W18 w' → (w'.cell? ⟨w.heap.size, 0, none⟩ = some (.bool p) ∧ w'.cell? ⟨w.heap.size, 1, none⟩ = some (.slice A n c) ∧ w'.cell? ⟨(w.heap.size + 1), 0, none⟩ = some (.bool q) ∧ w'.cell? ⟨(w.heap.size + 1), 1, none⟩ = some (.slice D n' d) ∧ Below W18.heap.size W18 w')) := Lib.hid (fun w' hB => ⟨cell_kept e_a00 hB, cell_kept e_a01 hB, cell_kept e_a10 hB, cell_kept e_a11 hB, hB⟩)
        have kr := kb
        go_cut [13] (fun sv wx => CutB W18 s L sv wx)
        case first =>
          go_region_held3 (fun w' => w'.cell? ⟨w.heap.size, 0, none⟩ = some (.bool p) ∧ w'.cell? ⟨w.heap.size, 1, none⟩ = some (.slice A n c) ∧ w'.cell? ⟨(w.heap.size + 1), 0, none⟩ = some (.bool q) ∧ w'.cell? ⟨(w.heap.size + 1), 1, none⟩ = some (.slice D n' d) ∧ Below W18.heap.size W18 w')
            (first | (exact SB.out _ (Below.refl _ _).drew) | (exact SB.out _ (ba1 _ _).drew) | (go_split_ands; exact SB.out _ (bt (by assumption : Below W18.heap.size W18 _) hb)) | (go_split_ands; exact SB.out _ (Below.alloc (by assumption : Below W18.heap.size W18 _) (Below.size (by assumption : Below W18.heap.size W18 _)) _)) | (go_split_ands; exact SB.out _ (below_put (below_put (by assumption : Below W18.heap.size W18 _) (by first | exact Nat.le_refl _ | assumption) _) (by first | exact Nat.le_refl _ | assumption) _)))
            (first | (go_at_call 14; go_split_ands; ((with_reducible refine (T0.out _ (R0.out _ (bt kr (by assumption)))).mono ?_); rintro e Wa ⟨ga, rfl, owna, hb⟩; have hsA := (bt (by assumption : Below W18.heap.size W18 _) hb).size; (first | have tt := (boxTd _ _ _ _).below hb | have tt := (boxT _ _ _ _).below hb | replace tt := tt.below hb | skip))) | (go_at_call 14; go_split_ands; ((with_reducible refine (T1.out _ (R1.out _ (bt kr (by assumption)))).mono ?_); rintro e Wb ⟨gb, rfl, ownb, hb⟩; have hsB := (bt (by assumption : Below W18.heap.size W18 _) hb).size; (first | (replace owna := owna.below hb) | (replace owna := (owna.below (ba1 _ _)).below hb)); (first | have tt := (boxTd _ _ _ _).below hb | have tt := (boxT _ _ _ _).below hb | replace tt := tt.below hb | skip))) | (go_at_call 30; go_split_ands; ((with_reducible refine (HI.out _ _ _ (by (first | exact owna.rd | exact (owna.below (ba1 _ _)).rd)) (by (first | exact ownb.rd | exact (ownb.below (ba1 _ _)).rd))).mono ?_); rintro e W19 ⟨Ah0, ch0, rfl, hch0, oh0, hb⟩; have KB0 := (by assumption : Below W18.heap.size W18 _); have KB := bt KB0 hb; have hsC := KB.size; have hO1 := oh0.more KB0.size; (first | (have hOO := Two.own (boxT _ _ _ _) oh0 KB0; have tt := (boxT _ _ _ _).below hb; obtain ⟨u0, u1, t1, t2, t3, t4⟩ := tt) | (have hOO := Two.own tt oh0 KB0; replace tt := tt.below hb; obtain ⟨u0, u1, t1, t2, t3, t4⟩ := tt) | skip))))
          all_goals (go_wp2_with fail; go_meet; first | exact ⟨_, Ah0, ch0, rfl, hsC, by rw [sz1]; omega, cells_new _ _ [.bool s, .slice Ah0 L.length ch0], hO1.below (ba1 _ _), KB.alloc KB.size _⟩ | exact ⟨_, Ah0, ch0, rfl, by first | exact Nat.le_refl _ | assumption, lt_put2 t1, cells_put2 t1 t2, hOO _ _, below_put (below_put KB (by first | exact Nat.le_refl _ | assumption) _) (by first | exact Nat.le_refl _ | assumption) _⟩)
        case rest =>
          obtain ⟨gvh0, Ah0, ch0, rfl, hloh0, hhih0, hcl, oh0, KB⟩ := hcut
          obtain ⟨W19, hWn⟩ : ∃ W', W' = wc := ⟨_, rfl⟩
          subst hWn
          clear e_a00 e_a01 e_a10 e_a11
          replace F := Fr.cons hcl (F.below KB)
          replace kb := bt kb KB
          replace ow0 := ow0.below KB
          replace og0 := og0.below KB
          have hzW19 : W18.heap.size ≤ W19.heap.size := KB.size
          have in_oh0 := oh0.inR VL.out.1
          clear KB kr SB hcl
          have e_h00 := F.get 0 0 rfl rfl
          have e_h01 := F.get 0 1 rfl rfl
          have e_w00 := F.get 4 0 rfl rfl
          have e_w01 := F.get 4 1 rfl rfl
          go_wp2_with fail
          clear e_h00 e_h01 e_w00 e_w01
          refine (HE.out _ _ _ _ _ oh0.rd ow0.rd).mono ?_
          rintro e W20 ⟨rfl, hb⟩
          replace F := F.below hb
          replace kb := bt kb hb
          replace ow0 := ow0.below hb
          replace og0 := og0.below hb
          replace oh0 := oh0.below hb
          have hzW20 : W19.heap.size ≤ W20.heap.size := hb.size
          clear hb
          have e_g00 := F.get 1 0 rfl rfl
          have e_g01 := F.get 1 1 rfl rfl
          go_wp2_with fail
          clear e_g00 e_g01
          refine (HH.out _ _ _ og0.rd).mono ?_
          rintro e W21 ⟨rfl, hb⟩
          replace F := F.below hb
          replace kb := bt kb hb
          replace ow0 := ow0.below hb
          replace og0 := og0.below hb
          replace oh0 := oh0.below hb
          have hzW21 : W20.heap.size ≤ W21.heap.size := hb.size
          clear hb
          go_wp2
          go_ret
          exact ⟨rfl, kb⟩
    · have SZ0 := Lib.hid (fun W => szBig_yes p A n c 1048576 W (by omega) (by omega) hg0)
      have hs0 : ¬ 1048576 - (n : Int) < 0 := by omega
      have SZ1 := Lib.hid (fun W => szBig_no q D n' d (1048576 - (n : Int)) W (by omega) (by omega) hn1 hg1)
      clear hg1 hl0 hA0 hl1 hA1
      go_enter Try.func9, Try.ntmps9
      go_wp2_with fail
      have F := (Fr.nil w).alloc 24 [.bool p, .slice A n c]
      replace F : Fr (w.alloc (.cells #[.bool p, .slice A n c] 24)) _ := F
      replace F : Fr ((w.alloc (.cells #[.bool p, .slice A n c] 24)).alloc (.cells #[.bool q, .slice D n' d] 24)) _ := F.alloc 24 [.bool q, .slice D n' d]
      have kb := ba2 w (.cells #[.bool p, .slice A n c] 24) (.cells #[.bool q, .slice D n' d] 24)
      rw [sz1] at F
      generalize (w.alloc (.cells #[.bool p, .slice A n c] 24)).alloc (.cells #[.bool q, .slice D n' d] 24) = W1 at F kb ⊢
      refine (SZ0.out _).mono ?_
      rintro e W2 ⟨rfl, hb⟩
      replace F := F.below hb
      replace kb := bt kb hb
      clear hb
      have e0 := F.get 0 0 rfl rfl
      have e1 := F.get 0 1 rfl rfl
      go_wp2_with fail
      refine (SZ1.out _).mono ?_
      rintro e W3 ⟨rfl, hb⟩
      replace kb := bt kb hb
      go_wp2
      go_ret
      exact ⟨rfl, kb⟩
  · have SZ := Lib.hid (fun W => szBig_no p A n c 1048576 W (by omega) (by omega) hn0 hg0)
    clear hg0 hl0 hA0 hl1 hA1
    go_enter Try.func9, Try.ntmps9
    go_wp2_with fail
    refine (SZ.out _).mono ?_
    rintro e W2 ⟨rfl, hb⟩
    have kb := (ba2 _ _ _ ).trans (hb.mono (by rw [sz2]; omega))
    go_wp2
    go_ret
    exact ⟨rfl, kb⟩
end Go.Proofs.Ytnejpdlikdgnnaa
