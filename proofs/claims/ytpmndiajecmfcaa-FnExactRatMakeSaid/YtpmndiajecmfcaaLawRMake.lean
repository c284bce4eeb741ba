/-
  'FnExactRatMake' returns true: its walk.
-/
import Derived.Test.YtpmndiajecmfcaaPkD
import Derived.Test.YtpmndiajecmfcaaPkI
import Derived.Deep.RegionHeld3
import Derived.Deep.DeepCutAuto
namespace Go.Proofs.Ytpmndiajecmfcaa
open Go.ChangeShapes Go.WideShapes Go.ChangeAt Go.RowKit
open Go.ChangeMaps (open_string shut_string)
set_option linter.unusedVariables false
set_option linter.unusedSimpArgs false
set_option maxRecDepth 4000

set_option maxHeartbeats 4000000 in
theorem law_rmake (p : Bool) (l : List Int) (A : Option Addr) (n c : Nat) (q : Bool) (l' : List Int) (A' : Option Addr) (n' c' : Nat) (w : World) (hl0 : l.length = n) (hn0 : n ≤ 9223372036854775807) (hA0 : RdS w A (vi l)) (hl1 : l'.length = n') (hn1 : n' ≤ 9223372036854775807) (hA1 : RdS w A' (vi l')) :
    Calls Try.prog 4 #[.agg #[.bool p, .slice A n c], .agg #[.bool q, .slice A' n' c']] w fun e w' => e = .returned (.bool true) ∧ Below w.heap.size w w' := by
  by_cases hg0 : (n : Int) ≤ 1048576
  · by_cases hg1 : (n' : Int) ≤ 1048576 - (n : Int)
    · have hj00 : n ≤ 1048576 := by omega
      have SZ0 := Lib.hid (fun W => szBig_yes p A n c (1048576) W (by omega) (by omega) hg0)
      have hs0 : ¬ 1048576 - (n : Int) < 0 := by omega
      have T0 := Lib.hid (fun W h => toBig_any p l A n c W hl0 hj00 h)
      have E0 := Lib.hid (fun g g' W h h' => eqBig_same p l (some ⟨g, 0, none⟩) (some ⟨g', 0, none⟩) n n n W hl0 (by omega) h h')
      have M0 := Lib.hid (fun B g W h => markBig_any B p (vi l) (some ⟨g, 0, none⟩) n n (1) W (by rw [vi_length, hl0]) (by omega) (by omega) h)
      have V0 : Hid ((vi l).length = n ∧ True) := Lib.hid ⟨by rw [vi_length, hl0], trivial⟩
      have R0 : Hid (∀ W, Below w.heap.size w W → RdS W A (vi l) ∧ True) := Lib.hid (fun W hb => ⟨hA0.below hb, trivial⟩)
      have hj10 : n' ≤ 1048576 := by omega
      have SZ1 := Lib.hid (fun W => szBig_yes q A' n' c' (1048576 - (n : Int)) W (by omega) (by omega) hg1)
      have hs1 : ¬ 1048576 - (n : Int) - (n' : Int) < 0 := by omega
      have T1 := Lib.hid (fun W h => toBig_any q l' A' n' c' W hl1 hj10 h)
      have E1 := Lib.hid (fun g g' W h h' => eqBig_same q l' (some ⟨g, 0, none⟩) (some ⟨g', 0, none⟩) n' n' n' W hl1 (by omega) h h')
      have M1 := Lib.hid (fun B g W h => markBig_any B q (vi l') (some ⟨g, 0, none⟩) n' n' (1 + (n : Int)) W (by rw [vi_length, hl1]) (by omega) (by omega) h)
      have V1 : Hid ((vi l').length = n' ∧ True) := Lib.hid ⟨by rw [vi_length, hl1], trivial⟩
      have R1 : Hid (∀ W, Below w.heap.size w W → RdS W A' (vi l') ∧ True) := Lib.hid (fun W hb => ⟨hA1.below hb, trivial⟩)
      have HS := Lib.hid (fun g0 g1 W r0 r1 => spec_rmake p q l l' (some ⟨g0, 0, none⟩) (some ⟨g1, 0, none⟩) n n' n n' W hl0 hl1 hn0 hn1 (Nat.le_refl _) (Nat.le_refl _) r0 r1)
      have HI := Lib.hid (fun g0 g1 W r0 r1 => impl_rmake p q l l' (some ⟨g0, 0, none⟩) (some ⟨g1, 0, none⟩) n n' n n' W hl0 hl1 hn0 hn1 r0 r1)
      have hlen : (ql (makQ p l q l')).length ≤ 1048576 ∧ (qd (makQ p l q l')).length ≤ 1048576 := makQ_len p q l l'
      clear hl0 hA0 hl1 hA1
      try unfold MadeR at HS
      try unfold MadeR at HI
      generalize ql (makQ p l q l') = L at HS HI hlen
      generalize qd (makQ p l q l') = M at HS HI hlen
      generalize qn (makQ p l q l') = s at HS HI
      obtain ⟨hlenL, hlenM⟩ := hlen
      have HE := Lib.hid (fun A D A' D' c d c' d' W a1 a2 a3 a4 => eqRat_same s L M A D A' D' L.length M.length c d c' d' W rfl rfl (by omega) (by omega) a1 a2 a3 a4)
      have HM : Hid (∀ B A c D d W, OwnS B W A (vi L) → OwnS B W D (vi M) → Apart L.length A M.length D → Calls Try.prog 28 #[.agg #[.bool s, .slice A L.length c, .slice D M.length d], .int .i64 1] W fun e w' => e = .returned (.int .i64 (mk2 L.length M.length)) ∧ OwnS B w' A (vi (marks 1 L.length)) ∧ OwnS B w' D (vi (marks (1 + (L.length : Int)) M.length)) ∧ Grown2 W w' (rowOf L.length A) (rowOf M.length D)) := Lib.hid (fun B A c D d W a1 a2 a3 => markRat_any B s (vi L) (vi M) A D L.length c M.length d 1 W (vi_length L) (vi_length M) (by omega) (by omega) a1 a2 a3)
      have HH : Hid (∀ A c D d W, RdS W A (vi (marks 1 L.length)) → RdS W D (vi (marks (1 + (L.length : Int)) M.length)) → Calls Try.prog 29 #[.agg #[.bool s, .slice A L.length c, .slice D M.length d], .int .i64 1] W fun e w' => e = .returned (.int .i64 (mk2 L.length M.length)) ∧ Below W.heap.size W w') := Lib.hid (fun A c D d W a1 a2 => heldRat_any s A D L.length c M.length d 1 W (by omega) (by omega) a1 a2)
      have VL : Hid ((vi L).length = L.length ∧ (vi M).length = M.length ∧ (vi (marks 1 L.length)).length = L.length ∧ (vi (marks (1 + (L.length : Int)) M.length)).length = M.length) := Lib.hid ⟨vi_length L, vi_length M, by rw [vi_length, marks_length], by rw [vi_length, marks_length]⟩
      have hl0 := mk2_pos L.length M.length
      have hl1 : ¬ mk2 L.length M.length < 0 := by omega
      go_enter Try.func4, Try.ntmps4
      go_wp2_with fail
      have F := Fr.nil w
      have kb := Below.refl w.heap.size w
      replace F : Fr (w.alloc (.cells #[.bool p, .slice A n c] 24)) _ := F.alloc 24 [.bool p, .slice A n c]
      replace F : Fr ((w.alloc (.cells #[.bool p, .slice A n c] 24)).alloc (.cells #[.bool q, .slice A' n' c'] 24)) _ := F.alloc 24 [.bool q, .slice A' n' c']
      replace kb := ba2 w (.cells #[.bool p, .slice A n c] 24) (.cells #[.bool q, .slice A' n' c'] 24)
      have hzW1 : w.heap.size + 2 ≤ ((w.alloc (.cells #[.bool p, .slice A n c] 24)).alloc (.cells #[.bool q, .slice A' n' c'] 24)).heap.size := by rw [sz2]; omega
      rw [sz1] at F
      generalize (w.alloc (.cells #[.bool p, .slice A n c] 24)).alloc (.cells #[.bool q, .slice A' n' c'] 24) = W1 at F kb hzW1 ⊢
      refine (SZ0.out _).mono ?_
      rintro e W2 ⟨rfl, hb⟩
      replace F := F.below hb
      replace kb := bt kb hb
      have hzW2 : W1.heap.size ≤ W2.heap.size := hb.size
      clear hb
      have e_a10 := F.get 0 0 rfl rfl
      have e_a11 := F.get 0 1 rfl rfl
      go_wp2_with fail
      clear e_a10 e_a11
      refine (SZ1.out _).mono ?_
      rintro e W3 ⟨rfl, hb⟩
      replace F := F.below hb
      replace kb := bt kb hb
      have hzW3 : W2.heap.size ≤ W3.heap.size := hb.size
      clear hb
      go_wp2_with fail
      have e_a00 := F.get 1 0 rfl rfl
      have e_a01 := F.get 1 1 rfl rfl
      have e_a10 := F.get 0 0 rfl rfl
      have e_a11 := F.get 0 1 rfl rfl
      have SB : Hid (∀ w', Below W3.heap.size W3 w' → (w'.cell? ⟨w.heap.size, 0, none⟩ = some (.bool p) ∧ w'.cell? ⟨w.heap.size, 1, none⟩ = some (.slice A n c) ∧ w'.cell? ⟨(w.heap.size + 1), 0, none⟩ = some (.bool q) ∧ w'.cell? ⟨(w.heap.size + 1), 1, none⟩ = some (.slice A' n' c') ∧ Below W3.heap.size W3 w')) := Lib.hid (fun w' hB => ⟨cell_kept e_a00 hB, cell_kept e_a01 hB, cell_kept e_a10 hB, cell_kept e_a11 hB, hB⟩)
      have kr := kb
      go_cut [6] (fun sv wx => CutR W3 31 s L M sv wx)
      case first =>
        go_region_held3 (fun w' => w'.cell? ⟨w.heap.size, 0, none⟩ = some (.bool p) ∧ w'.cell? ⟨w.heap.size, 1, none⟩ = some (.slice A n c) ∧ w'.cell? ⟨(w.heap.size + 1), 0, none⟩ = some (.bool q) ∧ w'.cell? ⟨(w.heap.size + 1), 1, none⟩ = some (.slice A' n' c') ∧ Below W3.heap.size W3 w')
          (first | (exact SB.out _ (Below.refl _ _).drew) | (exact SB.out _ (ba1 _ _).drew) | (exact SB.out _ (ba1 _ _)) | (go_split_ands; exact SB.out _ (bt (by assumption : Below W3.heap.size W3 _) hb)) | (go_split_ands; exact SB.out _ (Below.alloc (by assumption : Below W3.heap.size W3 _) (Below.size (by assumption : Below W3.heap.size W3 _)) _)) | (go_split_ands; exact SB.out _ (below_put3 (by assumption : Below W3.heap.size W3 _) (by first | exact Nat.le_refl _ | assumption) _ _ _)))
          (first | (go_at_call 24; go_split_ands; ((with_reducible refine (T0.out _ (R0.out _ (bt kr (by assumption : Below W3.heap.size W3 _))).1).mono ?_); rintro e Wa ⟨ga, rfl, owna, hb⟩; have hsA := (bt (by assumption : Below W3.heap.size W3 _) hb).size; (first | (have tt := (tt_a hb).1; have hgB := (tt_a hb).2) | (have tt := (tt_b hb).1; have hgB := (tt_b hb).2) | (have hgB := (tt_c tt hb).2; replace tt := (tt_c tt hb).1) | skip))) | (go_at_call 24; go_split_ands; ((with_reducible refine (T1.out _ (R1.out _ (bt kr (by assumption : Below W3.heap.size W3 _))).1).mono ?_); rintro e Wb ⟨gc, rfl, ownc, hb⟩; have hsB := (bt (by assumption : Below W3.heap.size W3 _) hb).size; (first | (replace owna := owna.below hb) | (replace owna := (owna.below (ba1 _ _)).below hb)); (first | (have tt := (tt_a hb).1; have hgB := (tt_a hb).2) | (have tt := (tt_b hb).1; have hgB := (tt_b hb).2) | (have hgB := (tt_c tt hb).2; replace tt := (tt_c tt hb).1) | skip))) | (go_at_call 23; go_split_ands; ((with_reducible refine (HS.out _ _ _ (by first | exact owna.rd | exact (owna.below (ba1 _ _)).rd) (by first | exact ownc.rd | exact (ownc.below (ba1 _ _)).rd)).mono ?_); rintro e W4 ⟨Aw0, cw0, Dw0, dw0, rfl, hcw0, hdw0, owa, owb, hap_w0, hb⟩; have KB0 := (by assumption : Below W3.heap.size W3 _); have KB := bt KB0 hb; have hsC := KB.size; have hO1 := owa.more KB0.size; have hO2 := owb.more KB0.size; (first | (have tt := (tt_a hb).1; have hgB := (tt_a hb).2) | (have tt := (tt_b hb).1; have hgB := (tt_b hb).2) | (have hgB := (tt_c tt hb).2; replace tt := (tt_c tt hb).1) | skip); (first | (have t0 := rblk_cell tt 0; have q0 := rblk_free tt 0; have t1 := rblk_cell tt 1; have q1 := rblk_free tt 1; have t2 := rblk_cell tt 2; have q2 := rblk_free tt 2) | skip))))
        all_goals (go_wp2_with fail; go_meet; first | exact ⟨_, Aw0, cw0, Dw0, dw0, rfl, hsC, hcw0, hdw0, heap_alloc_new _ _, hO1.below (ba1 _ _), hO2.below (ba1 _ _), hap_w0, KB.alloc KB.size _⟩ | exact ⟨_, Aw0, cw0, Dw0, dw0, rfl, (by first | exact Nat.le_refl _ | assumption), hcw0, hdw0, rblk_set (rblk_set (rblk_set tt 0 _) 1 _) 2 _, (own_put3 owa hgB _ _ _).more KB0.size, (own_put3 owb hgB _ _ _).more KB0.size, hap_w0, below_put3 KB (by first | exact Nat.le_refl _ | assumption) _ _ _⟩)
      case rest =>
        obtain ⟨gvw0, Aw0, cw0, Dw0, dw0, rfl, hlow0, hcw0, hdw0, hcl, owa, owb, hap_w0, KB⟩ := hcut
        obtain ⟨W4, hWn⟩ : ∃ W', W' = wc := ⟨_, rfl⟩
        subst hWn
        clear e_a00 e_a01 e_a10 e_a11
        have hhiw0 := rblk_lt hcl
        replace F := Fr.cons (cells_of_blk (vs := [.bool s, .slice Aw0 L.length cw0, .slice Dw0 M.length dw0]) hcl) (F.below KB)
        replace kb := bt kb KB
        have hzW4 : W3.heap.size ≤ W4.heap.size := KB.size
        have in_owa := owa.inR VL.out.1
        have in_owb := owb.inR VL.out.2.1
        clear KB kr SB hcl
        have e_a00 := F.get 2 0 rfl rfl
        have e_a01 := F.get 2 1 rfl rfl
        go_wp2_with fail
        clear e_a00 e_a01
        refine (T0.out _ (R0.out _ kb).1).mono ?_
        rintro e W5 ⟨gx0, rfl, ox0a, hb⟩
        replace F := F.below hb
        replace kb := bt kb hb
        replace owa := owa.below hb
        replace owb := owb.below hb
        have hzW5 : W4.heap.size ≤ W5.heap.size := hb.size
        clear hb
        have in_ox0a := ox0a.inR V0.out.1
        replace F : Fr (W5.alloc (.cells #[.bool p, .slice (some ⟨gx0, 0, none⟩) n n] 29)) _ := F.alloc 29 [.bool p, .slice (some ⟨gx0, 0, none⟩) n n]
        replace kb := kb.alloc kb.size (.cells #[.bool p, .slice (some ⟨gx0, 0, none⟩) n n] 29)
        replace owa := owa.below (ba1 W5 (.cells #[.bool p, .slice (some ⟨gx0, 0, none⟩) n n] 29))
        replace owb := owb.below (ba1 W5 (.cells #[.bool p, .slice (some ⟨gx0, 0, none⟩) n n] 29))
        replace ox0a := ox0a.below (ba1 W5 (.cells #[.bool p, .slice (some ⟨gx0, 0, none⟩) n n] 29))
        have hzW6 : W5.heap.size < (W5.alloc (.cells #[.bool p, .slice (some ⟨gx0, 0, none⟩) n n] 29)).heap.size := by rw [sz1]; omega
        have e_a10 := F.get 2 0 rfl rfl
        have e_a11 := F.get 2 1 rfl rfl
        go_wp2_with fail
        clear e_a10 e_a11
        generalize W5.alloc (.cells #[.bool p, .slice (some ⟨gx0, 0, none⟩) n n] 29) = W6 at F kb hzW6 owa owb ox0a ⊢
        refine (T1.out _ (R1.out _ kb).1).mono ?_
        rintro e W7 ⟨gx1, rfl, ox1a, hb⟩
        replace F := F.below hb
        replace kb := bt kb hb
        replace owa := owa.below hb
        replace owb := owb.below hb
        replace ox0a := ox0a.below hb
        have hzW7 : W6.heap.size ≤ W7.heap.size := hb.size
        clear hb
        have in_ox1a := ox1a.inR V1.out.1
        replace F : Fr (W7.alloc (.cells #[.bool q, .slice (some ⟨gx1, 0, none⟩) n' n'] 29)) _ := F.alloc 29 [.bool q, .slice (some ⟨gx1, 0, none⟩) n' n']
        replace kb := kb.alloc kb.size (.cells #[.bool q, .slice (some ⟨gx1, 0, none⟩) n' n'] 29)
        replace owa := owa.below (ba1 W7 (.cells #[.bool q, .slice (some ⟨gx1, 0, none⟩) n' n'] 29))
        replace owb := owb.below (ba1 W7 (.cells #[.bool q, .slice (some ⟨gx1, 0, none⟩) n' n'] 29))
        replace ox0a := ox0a.below (ba1 W7 (.cells #[.bool q, .slice (some ⟨gx1, 0, none⟩) n' n'] 29))
        replace ox1a := ox1a.below (ba1 W7 (.cells #[.bool q, .slice (some ⟨gx1, 0, none⟩) n' n'] 29))
        have hzW8 : W7.heap.size < (W7.alloc (.cells #[.bool q, .slice (some ⟨gx1, 0, none⟩) n' n'] 29)).heap.size := by rw [sz1]; omega
        have e_x00 := F.get 1 0 rfl rfl
        have e_x01 := F.get 1 1 rfl rfl
        have e_x10 := F.get 0 0 rfl rfl
        have e_x11 := F.get 0 1 rfl rfl
        go_wp2_with fail
        clear e_x00 e_x01 e_x10 e_x11
        generalize W7.alloc (.cells #[.bool q, .slice (some ⟨gx1, 0, none⟩) n' n'] 29) = W8 at F kb hzW8 owa owb ox0a ox1a ⊢
        refine (HI.out _ _ _ ox0a.rd ox1a.rd).mono ?_
        rintro e W9 ⟨Ag0, cg0, Dg0, dg0, rfl, hcg0, hdg0, oga, ogb, hap_g0, hb⟩
        replace F := F.below hb
        replace kb := bt kb hb
        replace owa := owa.below hb
        replace owb := owb.below hb
        replace ox0a := ox0a.below hb
        replace ox1a := ox1a.below hb
        have hzW9 : W8.heap.size ≤ W9.heap.size := hb.size
        clear hb
        have in_oga := oga.inR VL.out.1
        have in_ogb := ogb.inR VL.out.2.1
        replace F : Fr (W9.alloc (.cells #[.bool s, .slice Ag0 L.length cg0, .slice Dg0 M.length dg0] 31)) _ := F.alloc 31 [.bool s, .slice Ag0 L.length cg0, .slice Dg0 M.length dg0]
        replace kb := kb.alloc kb.size (.cells #[.bool s, .slice Ag0 L.length cg0, .slice Dg0 M.length dg0] 31)
        replace owa := owa.below (ba1 W9 (.cells #[.bool s, .slice Ag0 L.length cg0, .slice Dg0 M.length dg0] 31))
        replace owb := owb.below (ba1 W9 (.cells #[.bool s, .slice Ag0 L.length cg0, .slice Dg0 M.length dg0] 31))
        replace ox0a := ox0a.below (ba1 W9 (.cells #[.bool s, .slice Ag0 L.length cg0, .slice Dg0 M.length dg0] 31))
        replace ox1a := ox1a.below (ba1 W9 (.cells #[.bool s, .slice Ag0 L.length cg0, .slice Dg0 M.length dg0] 31))
        replace oga := oga.below (ba1 W9 (.cells #[.bool s, .slice Ag0 L.length cg0, .slice Dg0 M.length dg0] 31))
        replace ogb := ogb.below (ba1 W9 (.cells #[.bool s, .slice Ag0 L.length cg0, .slice Dg0 M.length dg0] 31))
        have hzW10 : W9.heap.size < (W9.alloc (.cells #[.bool s, .slice Ag0 L.length cg0, .slice Dg0 M.length dg0] 31)).heap.size := by rw [sz1]; omega
        have e_g00 := F.get 0 0 rfl rfl
        have e_g01 := F.get 0 1 rfl rfl
        have e_g02 := F.get 0 2 rfl rfl
        have e_w00 := F.get 3 0 rfl rfl
        have e_w01 := F.get 3 1 rfl rfl
        have e_w02 := F.get 3 2 rfl rfl
        go_wp2_with fail
        clear e_g00 e_g01 e_g02 e_w00 e_w01 e_w02
        generalize W9.alloc (.cells #[.bool s, .slice Ag0 L.length cg0, .slice Dg0 M.length dg0] 31) = W10 at F kb hzW10 owa owb ox0a ox1a oga ogb ⊢
        refine (HE.out _ _ _ _ _ _ _ _ _ oga.rd ogb.rd owa.rd owb.rd).mono ?_
        rintro e W11 ⟨rfl, hb⟩
        replace F := F.below hb
        replace kb := bt kb hb
        replace owa := owa.below hb
        replace owb := owb.below hb
        replace ox0a := ox0a.below hb
        replace ox1a := ox1a.below hb
        replace oga := oga.below hb
        replace ogb := ogb.below hb
        have hzW11 : W10.heap.size ≤ W11.heap.size := hb.size
        clear hb
        go_wp2_with fail
        have e_x00 := F.get 2 0 rfl rfl
        have e_x01 := F.get 2 1 rfl rfl
        have e_a00 := F.get 5 0 rfl rfl
        have e_a01 := F.get 5 1 rfl rfl
        have SB : Hid (∀ w', Below W11.heap.size W11 w' → (w'.cell? ⟨W5.heap.size, 0, none⟩ = some (.bool p) ∧ w'.cell? ⟨W5.heap.size, 1, none⟩ = some (.slice (some ⟨gx0, 0, none⟩) n n) ∧ w'.cell? ⟨w.heap.size, 0, none⟩ = some (.bool p) ∧ w'.cell? ⟨w.heap.size, 1, none⟩ = some (.slice A n c) ∧ Below W11.heap.size W11 w')) := Lib.hid (fun w' hB => ⟨cell_kept e_x00 hB, cell_kept e_x01 hB, cell_kept e_a00 hB, cell_kept e_a01 hB, hB⟩)
        have kr := kb
        go_region_held3 (fun w' => w'.cell? ⟨W5.heap.size, 0, none⟩ = some (.bool p) ∧ w'.cell? ⟨W5.heap.size, 1, none⟩ = some (.slice (some ⟨gx0, 0, none⟩) n n) ∧ w'.cell? ⟨w.heap.size, 0, none⟩ = some (.bool p) ∧ w'.cell? ⟨w.heap.size, 1, none⟩ = some (.slice A n c) ∧ Below W11.heap.size W11 w')
          (first | (exact SB.out _ (Below.refl _ _).drew) | (exact SB.out _ (Below.refl _ _)) | (go_split_ands; exact SB.out _ (bt (by assumption : Below W11.heap.size W11 _) hb)))
          (first | (go_at_call 24; go_split_ands; ((with_reducible refine (T0.out _ (R0.out _ (bt kr (by assumption : Below W11.heap.size W11 _))).1).mono ?_); rintro e Wa ⟨ga, rfl, owna, hb⟩)) | (go_at_call 26; go_split_ands; ((with_reducible refine (E0.out _ _ _ (ox0a.below (by assumption : Below W11.heap.size W11 _)).rd owna.rd).mono ?_); rintro e W12 ⟨rfl, hb⟩; have KB := bt (by assumption : Below W11.heap.size W11 _) hb)))
        clear e_x00 e_x01 e_a00 e_a01
        replace F := F.below KB
        replace kb := bt kb KB
        replace owa := owa.below KB
        replace owb := owb.below KB
        replace ox0a := ox0a.below KB
        replace ox1a := ox1a.below KB
        replace oga := oga.below KB
        replace ogb := ogb.below KB
        have hzW12 : W11.heap.size ≤ W12.heap.size := KB.size
        clear KB kr SB owna
        try clear ‹_ ∧ _›
        go_wp2_with fail
        have e_x10 := F.get 1 0 rfl rfl
        have e_x11 := F.get 1 1 rfl rfl
        have e_a10 := F.get 4 0 rfl rfl
        have e_a11 := F.get 4 1 rfl rfl
        have SB : Hid (∀ w', Below W12.heap.size W12 w' → (w'.cell? ⟨W7.heap.size, 0, none⟩ = some (.bool q) ∧ w'.cell? ⟨W7.heap.size, 1, none⟩ = some (.slice (some ⟨gx1, 0, none⟩) n' n') ∧ w'.cell? ⟨(w.heap.size + 1), 0, none⟩ = some (.bool q) ∧ w'.cell? ⟨(w.heap.size + 1), 1, none⟩ = some (.slice A' n' c') ∧ Below W12.heap.size W12 w')) := Lib.hid (fun w' hB => ⟨cell_kept e_x10 hB, cell_kept e_x11 hB, cell_kept e_a10 hB, cell_kept e_a11 hB, hB⟩)
        have kr := kb
        go_region_held3 (fun w' => w'.cell? ⟨W7.heap.size, 0, none⟩ = some (.bool q) ∧ w'.cell? ⟨W7.heap.size, 1, none⟩ = some (.slice (some ⟨gx1, 0, none⟩) n' n') ∧ w'.cell? ⟨(w.heap.size + 1), 0, none⟩ = some (.bool q) ∧ w'.cell? ⟨(w.heap.size + 1), 1, none⟩ = some (.slice A' n' c') ∧ Below W12.heap.size W12 w')
          (first | (exact SB.out _ (Below.refl _ _).drew) | (exact SB.out _ (Below.refl _ _)) | (go_split_ands; exact SB.out _ (bt (by assumption : Below W12.heap.size W12 _) hb)))
          (first | (go_at_call 24; go_split_ands; ((with_reducible refine (T1.out _ (R1.out _ (bt kr (by assumption : Below W12.heap.size W12 _))).1).mono ?_); rintro e Wa ⟨ga, rfl, owna, hb⟩)) | (go_at_call 26; go_split_ands; ((with_reducible refine (E1.out _ _ _ (ox1a.below (by assumption : Below W12.heap.size W12 _)).rd owna.rd).mono ?_); rintro e W13 ⟨rfl, hb⟩; have KB := bt (by assumption : Below W12.heap.size W12 _) hb)))
        clear e_x10 e_x11 e_a10 e_a11
        replace F := F.below KB
        replace kb := bt kb KB
        replace owa := owa.below KB
        replace owb := owb.below KB
        replace ox0a := ox0a.below KB
        replace ox1a := ox1a.below KB
        replace oga := oga.below KB
        replace ogb := ogb.below KB
        have hzW13 : W12.heap.size ≤ W13.heap.size := KB.size
        clear KB kr SB owna
        try clear ‹_ ∧ _›
        have e_x00 := F.get 2 0 rfl rfl
        have e_x01 := F.get 2 1 rfl rfl
        go_wp2_with fail
        clear e_x00 e_x01
        refine (M0.out _ _ _ ox0a).mono ?_
        rintro e W14 ⟨rfl, ox0aq, hgr0⟩
        replace F := F.grownR in_ox0a hgr0 (by intro x hx; simp only [List.mem_cons, List.not_mem_nil, or_false] at hx; rcases hx with rfl | rfl | rfl | rfl | rfl | rfl <;> (dsimp only; omega))
        replace kb := below_grownR kb in_ox0a hgr0 (by omega)
        replace owa := owa.apartR VL.out.1 in_owa in_ox0a hgr0 (by omega)
        replace owb := owb.apartR VL.out.2.1 in_owb in_ox0a hgr0 (by omega)
        replace ox1a := ox1a.apartR V1.out.1 in_ox1a in_ox0a hgr0 (by omega)
        replace oga := oga.apartR VL.out.1 in_oga in_ox0a hgr0 (by omega)
        replace ogb := ogb.apartR VL.out.2.1 in_ogb in_ox0a hgr0 (by omega)
        have hzW14 : W13.heap.size ≤ W14.heap.size := hgr0.size
        clear hgr0
        clear ox0a ox0aq in_ox0a
        have e_x10 := F.get 1 0 rfl rfl
        have e_x11 := F.get 1 1 rfl rfl
        go_wp2_with fail
        clear e_x10 e_x11
        refine (M1.out _ _ _ ox1a).mono ?_
        rintro e W15 ⟨rfl, ox1aq, hgr0⟩
        replace F := F.grownR in_ox1a hgr0 (by intro x hx; simp only [List.mem_cons, List.not_mem_nil, or_false] at hx; rcases hx with rfl | rfl | rfl | rfl | rfl | rfl <;> (dsimp only; omega))
        replace kb := below_grownR kb in_ox1a hgr0 (by omega)
        replace owa := owa.apartR VL.out.1 in_owa in_ox1a hgr0 (by omega)
        replace owb := owb.apartR VL.out.2.1 in_owb in_ox1a hgr0 (by omega)
        replace oga := oga.apartR VL.out.1 in_oga in_ox1a hgr0 (by omega)
        replace ogb := ogb.apartR VL.out.2.1 in_ogb in_ox1a hgr0 (by omega)
        have hzW15 : W14.heap.size ≤ W15.heap.size := hgr0.size
        clear hgr0
        clear ox1a ox1aq in_ox1a
        have hkp : ¬ (1 + (n : Int) + (n' : Int)) < 0 := by omega
        have e_g00 := F.get 0 0 rfl rfl
        have e_g01 := F.get 0 1 rfl rfl
        have e_g02 := F.get 0 2 rfl rfl
        have e_w00 := F.get 3 0 rfl rfl
        have e_w01 := F.get 3 1 rfl rfl
        have e_w02 := F.get 3 2 rfl rfl
        go_wp2_with fail
        clear e_g00 e_g01 e_g02 e_w00 e_w01 e_w02
        refine (HE.out _ _ _ _ _ _ _ _ _ oga.rd ogb.rd owa.rd owb.rd).mono ?_
        rintro e W16 ⟨rfl, hb⟩
        replace F := F.below hb
        replace kb := bt kb hb
        replace owa := owa.below hb
        replace owb := owb.below hb
        replace oga := oga.below hb
        replace ogb := ogb.below hb
        have hzW16 : W15.heap.size ≤ W16.heap.size := hb.size
        clear hb
        have e_g00 := F.get 0 0 rfl rfl
        have e_g01 := F.get 0 1 rfl rfl
        have e_g02 := F.get 0 2 rfl rfl
        go_wp2_with fail
        clear e_g00 e_g01 e_g02
        refine (HM.out _ _ _ _ _ _ oga ogb hap_g0).mono ?_
        rintro e W17 ⟨rfl, ogaq, ogbq, ⟨WmW17, hgr0, hgr1⟩⟩
        replace F := F.grownR in_oga hgr0 (by intro x hx; simp only [List.mem_cons, List.not_mem_nil, or_false] at hx; rcases hx with rfl | rfl | rfl | rfl | rfl | rfl <;> (dsimp only; omega))
        replace kb := below_grownR kb in_oga hgr0 (by omega)
        replace owa := owa.apartR VL.out.1 in_owa in_oga hgr0 (by omega)
        replace owb := owb.apartR VL.out.2.1 in_owb in_oga hgr0 (by omega)
        replace F := F.grownR in_ogb hgr1 (by intro x hx; simp only [List.mem_cons, List.not_mem_nil, or_false] at hx; rcases hx with rfl | rfl | rfl | rfl | rfl | rfl <;> (dsimp only; omega))
        replace kb := below_grownR kb in_ogb hgr1 (by omega)
        replace owa := owa.apartR VL.out.1 in_owa in_ogb hgr1 (by omega)
        replace owb := owb.apartR VL.out.2.1 in_owb in_ogb hgr1 (by omega)
        have hzW17 : W16.heap.size ≤ W17.heap.size := Nat.le_trans hgr0.size hgr1.size
        clear hgr0 hgr1
        clear oga
        have oga := ogaq
        clear ogaq
        clear ogb
        have ogb := ogbq
        clear ogbq
        have e_g00 := F.get 0 0 rfl rfl
        have e_g01 := F.get 0 1 rfl rfl
        have e_g02 := F.get 0 2 rfl rfl
        go_wp2_with fail
        clear e_g00 e_g01 e_g02
        refine (HH.out _ _ _ _ _ oga.rd ogb.rd).mono ?_
        rintro e W18 ⟨rfl, hb⟩
        replace F := F.below hb
        replace kb := bt kb hb
        replace owa := owa.below hb
        replace owb := owb.below hb
        replace oga := oga.below hb
        replace ogb := ogb.below hb
        have hzW18 : W17.heap.size ≤ W18.heap.size := hb.size
        clear hb
        go_wp2_with fail
        have e_a00 := F.get 5 0 rfl rfl
        have e_a01 := F.get 5 1 rfl rfl
        have e_a10 := F.get 4 0 rfl rfl
        have e_a11 := F.get 4 1 rfl rfl
        have SB : Hid (∀ w', Below W18.heap.size W18 w' → (w'.cell? ⟨w.heap.size, 0, none⟩ = some (.bool p) ∧ w'.cell? ⟨w.heap.size, 1, none⟩ = some (.slice A n c) ∧ w'.cell? ⟨(w.heap.size + 1), 0, none⟩ = some (.bool q) ∧ w'.cell? ⟨(w.heap.size + 1), 1, none⟩ = some (.slice A' n' c') ∧ Below W18.heap.size W18 w')) := Lib.hid (fun w' hB => ⟨cell_kept e_a00 hB, cell_kept e_a01 hB, cell_kept e_a10 hB, cell_kept e_a11 hB, hB⟩)
        have kr := kb
        go_cut [13] (fun sv wx => CutR W18 31 s L M sv wx)
        case first =>
          go_region_held3 (fun w' => w'.cell? ⟨w.heap.size, 0, none⟩ = some (.bool p) ∧ w'.cell? ⟨w.heap.size, 1, none⟩ = some (.slice A n c) ∧ w'.cell? ⟨(w.heap.size + 1), 0, none⟩ = some (.bool q) ∧ w'.cell? ⟨(w.heap.size + 1), 1, none⟩ = some (.slice A' n' c') ∧ Below W18.heap.size W18 w')
            (first | (exact SB.out _ (Below.refl _ _).drew) | (exact SB.out _ (ba1 _ _).drew) | (exact SB.out _ (ba1 _ _)) | (go_split_ands; exact SB.out _ (bt (by assumption : Below W18.heap.size W18 _) hb)) | (go_split_ands; exact SB.out _ (Below.alloc (by assumption : Below W18.heap.size W18 _) (Below.size (by assumption : Below W18.heap.size W18 _)) _)) | (go_split_ands; exact SB.out _ (below_put3 (by assumption : Below W18.heap.size W18 _) (by first | exact Nat.le_refl _ | assumption) _ _ _)))
            (first | (go_at_call 24; go_split_ands; ((with_reducible refine (T0.out _ (R0.out _ (bt kr (by assumption : Below W18.heap.size W18 _))).1).mono ?_); rintro e Wa ⟨ga, rfl, owna, hb⟩; have hsA := (bt (by assumption : Below W18.heap.size W18 _) hb).size; (first | (have tt := (tt_a hb).1; have hgB := (tt_a hb).2) | (have tt := (tt_b hb).1; have hgB := (tt_b hb).2) | (have hgB := (tt_c tt hb).2; replace tt := (tt_c tt hb).1) | skip))) | (go_at_call 24; go_split_ands; ((with_reducible refine (T1.out _ (R1.out _ (bt kr (by assumption : Below W18.heap.size W18 _))).1).mono ?_); rintro e Wb ⟨gc, rfl, ownc, hb⟩; have hsB := (bt (by assumption : Below W18.heap.size W18 _) hb).size; (first | (replace owna := owna.below hb) | (replace owna := (owna.below (ba1 _ _)).below hb)); (first | (have tt := (tt_a hb).1; have hgB := (tt_a hb).2) | (have tt := (tt_b hb).1; have hgB := (tt_b hb).2) | (have hgB := (tt_c tt hb).2; replace tt := (tt_c tt hb).1) | skip))) | (go_at_call 25; go_split_ands; ((with_reducible refine (HI.out _ _ _ (by first | exact owna.rd | exact (owna.below (ba1 _ _)).rd) (by first | exact ownc.rd | exact (ownc.below (ba1 _ _)).rd)).mono ?_); rintro e W19 ⟨Ah0, ch0, Dh0, dh0, rfl, hch0, hdh0, oha, ohb, hap_h0, hb⟩; have KB0 := (by assumption : Below W18.heap.size W18 _); have KB := bt KB0 hb; have hsC := KB.size; have hO1 := oha.more KB0.size; have hO2 := ohb.more KB0.size; (first | (have tt := (tt_a hb).1; have hgB := (tt_a hb).2) | (have tt := (tt_b hb).1; have hgB := (tt_b hb).2) | (have hgB := (tt_c tt hb).2; replace tt := (tt_c tt hb).1) | skip); (first | (have t0 := rblk_cell tt 0; have q0 := rblk_free tt 0; have t1 := rblk_cell tt 1; have q1 := rblk_free tt 1; have t2 := rblk_cell tt 2; have q2 := rblk_free tt 2) | skip))))
          all_goals (go_wp2_with fail; go_meet; first | exact ⟨_, Ah0, ch0, Dh0, dh0, rfl, hsC, hch0, hdh0, heap_alloc_new _ _, hO1.below (ba1 _ _), hO2.below (ba1 _ _), hap_h0, KB.alloc KB.size _⟩ | exact ⟨_, Ah0, ch0, Dh0, dh0, rfl, (by first | exact Nat.le_refl _ | assumption), hch0, hdh0, rblk_set (rblk_set (rblk_set tt 0 _) 1 _) 2 _, (own_put3 oha hgB _ _ _).more KB0.size, (own_put3 ohb hgB _ _ _).more KB0.size, hap_h0, below_put3 KB (by first | exact Nat.le_refl _ | assumption) _ _ _⟩)
        case rest =>
          obtain ⟨gvh0, Ah0, ch0, Dh0, dh0, rfl, hloh0, hch0, hdh0, hcl, oha, ohb, hap_h0, KB⟩ := hcut
          obtain ⟨W19, hWn⟩ : ∃ W', W' = wc := ⟨_, rfl⟩
          subst hWn
          clear e_a00 e_a01 e_a10 e_a11
          have hhih0 := rblk_lt hcl
          replace F := Fr.cons (cells_of_blk (vs := [.bool s, .slice Ah0 L.length ch0, .slice Dh0 M.length dh0]) hcl) (F.below KB)
          replace kb := bt kb KB
          replace owa := owa.below KB
          replace owb := owb.below KB
          replace oga := oga.below KB
          replace ogb := ogb.below KB
          have hzW19 : W18.heap.size ≤ W19.heap.size := KB.size
          have in_oha := oha.inR VL.out.1
          have in_ohb := ohb.inR VL.out.2.1
          clear KB kr SB hcl
          have e_h00 := F.get 0 0 rfl rfl
          have e_h01 := F.get 0 1 rfl rfl
          have e_h02 := F.get 0 2 rfl rfl
          have e_w00 := F.get 4 0 rfl rfl
          have e_w01 := F.get 4 1 rfl rfl
          have e_w02 := F.get 4 2 rfl rfl
          go_wp2_with fail
          clear e_h00 e_h01 e_h02 e_w00 e_w01 e_w02
          refine (HE.out _ _ _ _ _ _ _ _ _ oha.rd ohb.rd owa.rd owb.rd).mono ?_
          rintro e W20 ⟨rfl, hb⟩
          replace F := F.below hb
          replace kb := bt kb hb
          replace owa := owa.below hb
          replace owb := owb.below hb
          replace oga := oga.below hb
          replace ogb := ogb.below hb
          replace oha := oha.below hb
          replace ohb := ohb.below hb
          have hzW20 : W19.heap.size ≤ W20.heap.size := hb.size
          clear hb
          have e_g00 := F.get 1 0 rfl rfl
          have e_g01 := F.get 1 1 rfl rfl
          have e_g02 := F.get 1 2 rfl rfl
          go_wp2_with fail
          clear e_g00 e_g01 e_g02
          refine (HH.out _ _ _ _ _ oga.rd ogb.rd).mono ?_
          rintro e W21 ⟨rfl, hb⟩
          replace F := F.below hb
          replace kb := bt kb hb
          replace owa := owa.below hb
          replace owb := owb.below hb
          replace oga := oga.below hb
          replace ogb := ogb.below hb
          replace oha := oha.below hb
          replace ohb := ohb.below hb
          have hzW21 : W20.heap.size ≤ W21.heap.size := hb.size
          clear hb
          go_wp2
          go_ret
          exact ⟨rfl, kb⟩
    · have SZ0 := Lib.hid (fun W => szBig_yes p A n c (1048576) W (by omega) (by omega) hg0)
      have hs0 : ¬ 1048576 - (n : Int) < 0 := by omega
      have SZ1 := Lib.hid (fun W => szBig_no q A' n' c' (1048576 - (n : Int)) W (by omega) (by omega) hn1 hg1)
      clear hg1 hl0 hA0 hl1 hA1
      go_enter Try.func4, Try.ntmps4
      go_wp2_with fail
      have F := (Fr.nil w).alloc 24 [.bool p, .slice A n c]
      replace F : Fr (w.alloc (.cells #[.bool p, .slice A n c] 24)) _ := F
      replace F : Fr ((w.alloc (.cells #[.bool p, .slice A n c] 24)).alloc (.cells #[.bool q, .slice A' n' c'] 24)) _ := F.alloc 24 [.bool q, .slice A' n' c']
      have kb := ba2 w (.cells #[.bool p, .slice A n c] 24) (.cells #[.bool q, .slice A' n' c'] 24)
      rw [sz1] at F
      generalize (w.alloc (.cells #[.bool p, .slice A n c] 24)).alloc (.cells #[.bool q, .slice A' n' c'] 24) = W1 at F kb ⊢
      refine (SZ0.out _).mono ?_
      rintro e W2 ⟨rfl, hb⟩
      replace F := F.below hb
      replace kb := bt kb hb
      clear hb
      have e0 := F.get 0 0 rfl rfl
      have e1 := F.get 0 1 rfl rfl
      go_wp2_with fail
      refine (SZ1.out _).mono ?_
      rintro e W3 ⟨rfl, hb⟩
      replace kb := bt kb hb
      go_wp2
      go_ret
      exact ⟨rfl, kb⟩
  · have SZ := Lib.hid (fun W => szBig_no p A n c (1048576) W (by omega) (by omega) hn0 hg0)
    clear hg0 hl0 hA0 hl1 hA1
    go_enter Try.func4, Try.ntmps4
    go_wp2_with fail
    refine (SZ.out _).mono ?_
    rintro e W2 ⟨rfl, hb⟩
    have kb := (ba2 _ _ _ ).trans (hb.mono (by rw [sz2]; omega))
    go_wp2
    go_ret
    exact ⟨rfl, kb⟩
end Go.Proofs.Ytpmndiajecmfcaa
