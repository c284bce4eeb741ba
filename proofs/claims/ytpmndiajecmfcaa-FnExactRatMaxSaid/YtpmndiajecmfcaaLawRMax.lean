/-
  'FnExactRatMax' returns true: its walk.
-/
import Derived.Test.YtpmndiajecmfcaaPkD
import Derived.Test.YtpmndiajecmfcaaPkH
import Derived.Test.YtpmndiajecmfcaaPkJ
import Derived.Deep.RegionHeld3
import Derived.Deep.DeepCutAuto
namespace Go.Proofs.Ytpmndiajecmfcaa
open Go.ChangeShapes Go.WideShapes Go.ChangeAt Go.RowKit
open Go.ChangeMaps (open_string shut_string)
set_option linter.unusedVariables false
set_option linter.unusedSimpArgs false
set_option maxRecDepth 4000

set_option maxHeartbeats 4000000 in
theorem law_rmax (p : Bool) (l m : List Int) (A D : Option Addr) (n c k d : Nat) (q : Bool) (l' m' : List Int) (A' D' : Option Addr) (n' c' k' d' : Nat) (w : World) (hl0 : l.length = n) (hm0 : m.length = k) (hn0 : n ≤ 9223372036854775807) (hk0 : k ≤ 9223372036854775807) (hA0 : RdS w A (vi l)) (hD0 : RdS w D (vi m)) (hl1 : l'.length = n') (hm1 : m'.length = k') (hn1 : n' ≤ 9223372036854775807) (hk1 : k' ≤ 9223372036854775807) (hA1 : RdS w A' (vi l')) (hD1 : RdS w D' (vi m')) :
    Calls Try.prog 16 #[.agg #[.bool p, .slice A n c, .slice D k d], .agg #[.bool q, .slice A' n' c', .slice D' k' d']] w fun e w' => e = .returned (.bool true) ∧ Below w.heap.size w w' := by
  by_cases hg0 : (n : Int) + (k : Int) ≤ 1048576
  · by_cases hg1 : (n' : Int) + (k' : Int) ≤ 1048576 - (n : Int) - (k : Int)
    · have hj00 : n ≤ 1048576 := by omega
      have hj01 : k ≤ 1048576 := by omega
      have SZ0 := Lib.hid (fun W => szRat_yes p A D n c k d (1048576) W (by omega) (by omega) hg0)
      have hs0 : ¬ 1048576 - (n : Int) - (k : Int) < 0 := by omega
      have T0 := Lib.hid (fun W h h' => toRat_any p l m A D n c k d W hl0 hj00 h hm0 hj01 h')
      have E0 := Lib.hid (fun g g' h h' W a1 a2 a3 a4 => eqRat_same p l m (some ⟨g, 0, none⟩) (some ⟨g', 0, none⟩) (some ⟨h, 0, none⟩) (some ⟨h', 0, none⟩) n k n k n k W hl0 hm0 (by omega) (by omega) a1 a2 a3 a4)
      have M0 := Lib.hid (fun B g g' W a1 a2 a3 => markRat_any B p (vi l) (vi m) (some ⟨g, 0, none⟩) (some ⟨g', 0, none⟩) n n k k (1) W (by rw [vi_length, hl0]) (by rw [vi_length, hm0]) (by omega) (by omega) a1 a2 a3)
      have V0 : Hid ((vi l).length = n ∧ (vi m).length = k) := Lib.hid ⟨by rw [vi_length, hl0], by rw [vi_length, hm0]⟩
      have R0 : Hid (∀ W, Below w.heap.size w W → RdS W A (vi l) ∧ RdS W D (vi m)) := Lib.hid (fun W hb => ⟨hA0.below hb, hD0.below hb⟩)
      have hj10 : n' ≤ 1048576 := by omega
      have hj11 : k' ≤ 1048576 := by omega
      have SZ1 := Lib.hid (fun W => szRat_yes q A' D' n' c' k' d' (1048576 - (n : Int) - (k : Int)) W (by omega) (by omega) hg1)
      have hs1 : ¬ 1048576 - (n : Int) - (k : Int) - (n' : Int) - (k' : Int) < 0 := by omega
      have T1 := Lib.hid (fun W h h' => toRat_any q l' m' A' D' n' c' k' d' W hl1 hj10 h hm1 hj11 h')
      have E1 := Lib.hid (fun g g' h h' W a1 a2 a3 a4 => eqRat_same q l' m' (some ⟨g, 0, none⟩) (some ⟨g', 0, none⟩) (some ⟨h, 0, none⟩) (some ⟨h', 0, none⟩) n' k' n' k' n' k' W hl1 hm1 (by omega) (by omega) a1 a2 a3 a4)
      have M1 := Lib.hid (fun B g g' W a1 a2 a3 => markRat_any B q (vi l') (vi m') (some ⟨g, 0, none⟩) (some ⟨g', 0, none⟩) n' n' k' k' (1 + (n : Int) + (k : Int)) W (by rw [vi_length, hl1]) (by rw [vi_length, hm1]) (by omega) (by omega) a1 a2 a3)
      have V1 : Hid ((vi l').length = n' ∧ (vi m').length = k') := Lib.hid ⟨by rw [vi_length, hl1], by rw [vi_length, hm1]⟩
      have R1 : Hid (∀ W, Below w.heap.size w W → RdS W A' (vi l') ∧ RdS W D' (vi m')) := Lib.hid (fun W hb => ⟨hA1.below hb, hD1.below hb⟩)
      have HS := Lib.hid (fun g0 h0 g1 h1 W r0 s0 r1 s1 => spec_rmax p q l m l' m' (some ⟨g0, 0, none⟩) (some ⟨h0, 0, none⟩) (some ⟨g1, 0, none⟩) (some ⟨h1, 0, none⟩) n k n' k' n k n' k' W hl0 hm0 hl1 hm1 hn0 hk0 hn1 hk1  r0 s0 r1 s1)
      have HI := Lib.hid (fun g0 h0 g1 h1 W r0 s0 r1 s1 => impl_rmax p q l m l' m' (some ⟨g0, 0, none⟩) (some ⟨h0, 0, none⟩) (some ⟨g1, 0, none⟩) (some ⟨h1, 0, none⟩) n k n' k' n k n' k' W hl0 hm0 hl1 hm1 hn0 hk0 hn1 hk1 r0 s0 r1 s1)
      have hlen : (ql (binQ maxQ (valQ p l m) (valQ q l' m'))).length ≤ 1048576 ∧ (qd (binQ maxQ (valQ p l m) (valQ q l' m'))).length ≤ 1048576 := binQ_len maxQ (fun r s t hr hs h => by unfold maxQ at h; split at h <;> (injection h with h; rw [← h]; assumption)) p q l m l' m'
      clear hl0 hm0 hA0 hD0 hl1 hm1 hA1 hD1
      try unfold MadeR at HS
      try unfold MadeR at HI
      generalize ql (binQ maxQ (valQ p l m) (valQ q l' m')) = L at HS HI hlen
      generalize qd (binQ maxQ (valQ p l m) (valQ q l' m')) = M at HS HI hlen
      generalize qn (binQ maxQ (valQ p l m) (valQ q l' m')) = s at HS HI
      obtain ⟨hlenL, hlenM⟩ := hlen
      have HE := Lib.hid (fun A D A' D' c d c' d' W a1 a2 a3 a4 => eqRat_same s L M A D A' D' L.length M.length c d c' d' W rfl rfl (by omega) (by omega) a1 a2 a3 a4)
      have HM : Hid (∀ B A c D d W, OwnS B W A (vi L) → OwnS B W D (vi M) → Apart L.length A M.length D → Calls Try.prog 28 #[.agg #[.bool s, .slice A L.length c, .slice D M.length d], .int .i64 1] W fun e w' => e = .returned (.int .i64 (mk2 L.length M.length)) ∧ OwnS B w' A (vi (marks 1 L.length)) ∧ OwnS B w' D (vi (marks (1 + (L.length : Int)) M.length)) ∧ Grown2 W w' (rowOf L.length A) (rowOf M.length D)) := Lib.hid (fun B A c D d W a1 a2 a3 => markRat_any B s (vi L) (vi M) A D L.length c M.length d 1 W (vi_length L) (vi_length M) (by omega) (by omega) a1 a2 a3)
      have HH : Hid (∀ A c D d W, RdS W A (vi (marks 1 L.length)) → RdS W D (vi (marks (1 + (L.length : Int)) M.length)) → Calls Try.prog 29 #[.agg #[.bool s, .slice A L.length c, .slice D M.length d], .int .i64 1] W fun e w' => e = .returned (.int .i64 (mk2 L.length M.length)) ∧ Below W.heap.size W w') := Lib.hid (fun A c D d W a1 a2 => heldRat_any s A D L.length c M.length d 1 W (by omega) (by omega) a1 a2)
      have VL : Hid ((vi L).length = L.length ∧ (vi M).length = M.length ∧ (vi (marks 1 L.length)).length = L.length ∧ (vi (marks (1 + (L.length : Int)) M.length)).length = M.length) := Lib.hid ⟨vi_length L, vi_length M, by rw [vi_length, marks_length], by rw [vi_length, marks_length]⟩
      have hl0 := mk2_pos L.length M.length
      have hl1 : ¬ mk2 L.length M.length < 0 := by omega
      go_enter Try.func16, Try.ntmps16
      go_wp2_with fail
      have F := Fr.nil w
      have kb := Below.refl w.heap.size w
      replace F : Fr (w.alloc (.cells #[.bool p, .slice A n c, .slice D k d] 26)) _ := F.alloc 26 [.bool p, .slice A n c, .slice D k d]
      replace F : Fr ((w.alloc (.cells #[.bool p, .slice A n c, .slice D k d] 26)).alloc (.cells #[.bool q, .slice A' n' c', .slice D' k' d'] 26)) _ := F.alloc 26 [.bool q, .slice A' n' c', .slice D' k' d']
      replace kb := ba2 w (.cells #[.bool p, .slice A n c, .slice D k d] 26) (.cells #[.bool q, .slice A' n' c', .slice D' k' d'] 26)
      have hzW1 : w.heap.size + 2 ≤ ((w.alloc (.cells #[.bool p, .slice A n c, .slice D k d] 26)).alloc (.cells #[.bool q, .slice A' n' c', .slice D' k' d'] 26)).heap.size := by rw [sz2]; omega
      rw [sz1] at F
      generalize (w.alloc (.cells #[.bool p, .slice A n c, .slice D k d] 26)).alloc (.cells #[.bool q, .slice A' n' c', .slice D' k' d'] 26) = W1 at F kb hzW1 ⊢
      refine (SZ0.out _).mono ?_
      rintro e W2 ⟨rfl, hb⟩
      replace F := F.below hb
      replace kb := bt kb hb
      have hzW2 : W1.heap.size ≤ W2.heap.size := hb.size
      clear hb
      have e_a10 := F.get 0 0 rfl rfl
      have e_a11 := F.get 0 1 rfl rfl
      have e_a12 := F.get 0 2 rfl rfl
      go_wp2_with fail
      clear e_a10 e_a11 e_a12
      refine (SZ1.out _).mono ?_
      rintro e W3 ⟨rfl, hb⟩
      replace F := F.below hb
      replace kb := bt kb hb
      have hzW3 : W2.heap.size ≤ W3.heap.size := hb.size
      clear hb
      go_wp2_with fail
      have e_a00 := F.get 1 0 rfl rfl
      have e_a01 := F.get 1 1 rfl rfl
      have e_a02 := F.get 1 2 rfl rfl
      have e_a10 := F.get 0 0 rfl rfl
      have e_a11 := F.get 0 1 rfl rfl
      have e_a12 := F.get 0 2 rfl rfl
      have SB : Hid (∀ w', Below W3.heap.size W3 w' → (w'.cell? ⟨w.heap.size, 0, none⟩ = some (.bool p) ∧ w'.cell? ⟨w.heap.size, 1, none⟩ = some (.slice A n c) ∧ w'.cell? ⟨w.heap.size, 2, none⟩ = some (.slice D k d) ∧ w'.cell? ⟨(w.heap.size + 1), 0, none⟩ = some (.bool q) ∧ w'.cell? ⟨(w.heap.size + 1), 1, none⟩ = some (.slice A' n' c') ∧ w'.cell? ⟨(w.heap.size + 1), 2, none⟩ = some (.slice D' k' d') ∧ Below W3.heap.size W3 w')) := Lib.hid (fun w' hB => ⟨cell_kept e_a00 hB, cell_kept e_a01 hB, cell_kept e_a02 hB, cell_kept e_a10 hB, cell_kept e_a11 hB, cell_kept e_a12 hB, hB⟩)
      have kr := kb
      go_cut [6] (fun sv wx => CutR W3 31 s L M sv wx)
      case first =>
        go_region_held3 (fun w' => w'.cell? ⟨w.heap.size, 0, none⟩ = some (.bool p) ∧ w'.cell? ⟨w.heap.size, 1, none⟩ = some (.slice A n c) ∧ w'.cell? ⟨w.heap.size, 2, none⟩ = some (.slice D k d) ∧ w'.cell? ⟨(w.heap.size + 1), 0, none⟩ = some (.bool q) ∧ w'.cell? ⟨(w.heap.size + 1), 1, none⟩ = some (.slice A' n' c') ∧ w'.cell? ⟨(w.heap.size + 1), 2, none⟩ = some (.slice D' k' d') ∧ Below W3.heap.size W3 w')
          (first | (exact SB.out _ (Below.refl _ _).drew) | (exact SB.out _ (ba1 _ _).drew) | (exact SB.out _ (ba1 _ _)) | (go_split_ands; exact SB.out _ (bt (by assumption : Below W3.heap.size W3 _) hb)) | (go_split_ands; exact SB.out _ (Below.alloc (by assumption : Below W3.heap.size W3 _) (Below.size (by assumption : Below W3.heap.size W3 _)) _)) | (go_split_ands; exact SB.out _ (below_put3 (by assumption : Below W3.heap.size W3 _) (by first | exact Nat.le_refl _ | assumption) _ _ _)))
          (first | (go_at_call 19; go_split_ands; ((with_reducible refine (T0.out _ (R0.out _ (bt kr (by assumption : Below W3.heap.size W3 _))).1 (R0.out _ (bt kr (by assumption : Below W3.heap.size W3 _))).2).mono ?_); rintro e Wa ⟨ga, gb, rfl, owna, ownb, -, hb⟩; have hsA := (bt (by assumption : Below W3.heap.size W3 _) hb).size; (first | (have tt := (tt_a hb).1; have hgB := (tt_a hb).2) | (have tt := (tt_b hb).1; have hgB := (tt_b hb).2) | (have hgB := (tt_c tt hb).2; replace tt := (tt_c tt hb).1) | skip))) | (go_at_call 19; go_split_ands; ((with_reducible refine (T1.out _ (R1.out _ (bt kr (by assumption : Below W3.heap.size W3 _))).1 (R1.out _ (bt kr (by assumption : Below W3.heap.size W3 _))).2).mono ?_); rintro e Wb ⟨gc, gd, rfl, ownc, ownd, -, hb⟩; have hsB := (bt (by assumption : Below W3.heap.size W3 _) hb).size; (first | (replace owna := owna.below hb) | (replace owna := (owna.below (ba1 _ _)).below hb)); (first | (replace ownb := ownb.below hb) | (replace ownb := (ownb.below (ba1 _ _)).below hb)); (first | (have tt := (tt_a hb).1; have hgB := (tt_a hb).2) | (have tt := (tt_b hb).1; have hgB := (tt_b hb).2) | (have hgB := (tt_c tt hb).2; replace tt := (tt_c tt hb).1) | skip))) | (go_at_call 52; go_split_ands; ((with_reducible refine (HS.out _ _ _ _ _ (by first | exact owna.rd | exact (owna.below (ba1 _ _)).rd) (by first | exact ownb.rd | exact (ownb.below (ba1 _ _)).rd) (by first | exact ownc.rd | exact (ownc.below (ba1 _ _)).rd) (by first | exact ownd.rd | exact (ownd.below (ba1 _ _)).rd)).mono ?_); rintro e W4 ⟨Aw0, cw0, Dw0, dw0, rfl, hcw0, hdw0, owa, owb, hap_w0, hb⟩; have KB0 := (by assumption : Below W3.heap.size W3 _); have KB := bt KB0 hb; have hsC := KB.size; have hO1 := owa.more KB0.size; have hO2 := owb.more KB0.size; (first | (have tt := (tt_a hb).1; have hgB := (tt_a hb).2) | (have tt := (tt_b hb).1; have hgB := (tt_b hb).2) | (have hgB := (tt_c tt hb).2; replace tt := (tt_c tt hb).1) | skip); (first | (have t0 := rblk_cell tt 0; have q0 := rblk_free tt 0; have t1 := rblk_cell tt 1; have q1 := rblk_free tt 1; have t2 := rblk_cell tt 2; have q2 := rblk_free tt 2) | skip))))
        all_goals (go_wp2_with fail; go_meet; first | exact ⟨_, Aw0, cw0, Dw0, dw0, rfl, hsC, hcw0, hdw0, heap_alloc_new _ _, hO1.below (ba1 _ _), hO2.below (ba1 _ _), hap_w0, KB.alloc KB.size _⟩ | exact ⟨_, Aw0, cw0, Dw0, dw0, rfl, (by first | exact Nat.le_refl _ | assumption), hcw0, hdw0, rblk_set (rblk_set (rblk_set tt 0 _) 1 _) 2 _, (own_put3 owa hgB _ _ _).more KB0.size, (own_put3 owb hgB _ _ _).more KB0.size, hap_w0, below_put3 KB (by first | exact Nat.le_refl _ | assumption) _ _ _⟩)
      case rest =>
        obtain ⟨gvw0, Aw0, cw0, Dw0, dw0, rfl, hlow0, hcw0, hdw0, hcl, owa, owb, hap_w0, KB⟩ := hcut
        obtain ⟨W4, hWn⟩ : ∃ W', W' = wc := ⟨_, rfl⟩
        subst hWn
        clear e_a00 e_a01 e_a02 e_a10 e_a11 e_a12
        have hhiw0 := rblk_lt hcl
        replace F := Fr.cons (cells_of_blk (vs := [.bool s, .slice Aw0 L.length cw0, .slice Dw0 M.length dw0]) hcl) (F.below KB)
        replace kb := bt kb KB
        have hzW4 : W3.heap.size ≤ W4.heap.size := KB.size
        have in_owa := owa.inR VL.out.1
        have in_owb := owb.inR VL.out.2.1
        clear KB kr SB hcl
        have e_a00 := F.get 2 0 rfl rfl
        have e_a01 := F.get 2 1 rfl rfl
        have e_a02 := F.get 2 2 rfl rfl
        go_wp2_with fail
        clear e_a00 e_a01 e_a02
        refine (T0.out _ (R0.out _ kb).1 (R0.out _ kb).2).mono ?_
        rintro e W5 ⟨gx0, gy0, rfl, ox0a, ox0b, ⟨mid0, ia0, ib0⟩, hb⟩
        replace F := F.below hb
        replace kb := bt kb hb
        replace owa := owa.below hb
        replace owb := owb.below hb
        have hzW5 : W4.heap.size ≤ W5.heap.size := hb.size
        clear hb
        have in_ox0a := ox0a.inR V0.out.1
        have in_ox0b := ox0b.inR V0.out.2
        have hapx0 := ia0.apart ib0 (.inl (Nat.le_refl _))
        clear ia0 ib0
        replace F : Fr (W5.alloc (.cells #[.bool p, .slice (some ⟨gx0, 0, none⟩) n n, .slice (some ⟨gy0, 0, none⟩) k k] 31)) _ := F.alloc 31 [.bool p, .slice (some ⟨gx0, 0, none⟩) n n, .slice (some ⟨gy0, 0, none⟩) k k]
        replace kb := kb.alloc kb.size (.cells #[.bool p, .slice (some ⟨gx0, 0, none⟩) n n, .slice (some ⟨gy0, 0, none⟩) k k] 31)
        replace owa := owa.below (ba1 W5 (.cells #[.bool p, .slice (some ⟨gx0, 0, none⟩) n n, .slice (some ⟨gy0, 0, none⟩) k k] 31))
        replace owb := owb.below (ba1 W5 (.cells #[.bool p, .slice (some ⟨gx0, 0, none⟩) n n, .slice (some ⟨gy0, 0, none⟩) k k] 31))
        replace ox0a := ox0a.below (ba1 W5 (.cells #[.bool p, .slice (some ⟨gx0, 0, none⟩) n n, .slice (some ⟨gy0, 0, none⟩) k k] 31))
        replace ox0b := ox0b.below (ba1 W5 (.cells #[.bool p, .slice (some ⟨gx0, 0, none⟩) n n, .slice (some ⟨gy0, 0, none⟩) k k] 31))
        have hzW6 : W5.heap.size < (W5.alloc (.cells #[.bool p, .slice (some ⟨gx0, 0, none⟩) n n, .slice (some ⟨gy0, 0, none⟩) k k] 31)).heap.size := by rw [sz1]; omega
        have e_a10 := F.get 2 0 rfl rfl
        have e_a11 := F.get 2 1 rfl rfl
        have e_a12 := F.get 2 2 rfl rfl
        go_wp2_with fail
        clear e_a10 e_a11 e_a12
        generalize W5.alloc (.cells #[.bool p, .slice (some ⟨gx0, 0, none⟩) n n, .slice (some ⟨gy0, 0, none⟩) k k] 31) = W6 at F kb hzW6 owa owb ox0a ox0b ⊢
        refine (T1.out _ (R1.out _ kb).1 (R1.out _ kb).2).mono ?_
        rintro e W7 ⟨gx1, gy1, rfl, ox1a, ox1b, ⟨mid1, ia1, ib1⟩, hb⟩
        replace F := F.below hb
        replace kb := bt kb hb
        replace owa := owa.below hb
        replace owb := owb.below hb
        replace ox0a := ox0a.below hb
        replace ox0b := ox0b.below hb
        have hzW7 : W6.heap.size ≤ W7.heap.size := hb.size
        clear hb
        have in_ox1a := ox1a.inR V1.out.1
        have in_ox1b := ox1b.inR V1.out.2
        have hapx1 := ia1.apart ib1 (.inl (Nat.le_refl _))
        clear ia1 ib1
        replace F : Fr (W7.alloc (.cells #[.bool q, .slice (some ⟨gx1, 0, none⟩) n' n', .slice (some ⟨gy1, 0, none⟩) k' k'] 31)) _ := F.alloc 31 [.bool q, .slice (some ⟨gx1, 0, none⟩) n' n', .slice (some ⟨gy1, 0, none⟩) k' k']
        replace kb := kb.alloc kb.size (.cells #[.bool q, .slice (some ⟨gx1, 0, none⟩) n' n', .slice (some ⟨gy1, 0, none⟩) k' k'] 31)
        replace owa := owa.below (ba1 W7 (.cells #[.bool q, .slice (some ⟨gx1, 0, none⟩) n' n', .slice (some ⟨gy1, 0, none⟩) k' k'] 31))
        replace owb := owb.below (ba1 W7 (.cells #[.bool q, .slice (some ⟨gx1, 0, none⟩) n' n', .slice (some ⟨gy1, 0, none⟩) k' k'] 31))
        replace ox0a := ox0a.below (ba1 W7 (.cells #[.bool q, .slice (some ⟨gx1, 0, none⟩) n' n', .slice (some ⟨gy1, 0, none⟩) k' k'] 31))
        replace ox0b := ox0b.below (ba1 W7 (.cells #[.bool q, .slice (some ⟨gx1, 0, none⟩) n' n', .slice (some ⟨gy1, 0, none⟩) k' k'] 31))
        replace ox1a := ox1a.below (ba1 W7 (.cells #[.bool q, .slice (some ⟨gx1, 0, none⟩) n' n', .slice (some ⟨gy1, 0, none⟩) k' k'] 31))
        replace ox1b := ox1b.below (ba1 W7 (.cells #[.bool q, .slice (some ⟨gx1, 0, none⟩) n' n', .slice (some ⟨gy1, 0, none⟩) k' k'] 31))
        have hzW8 : W7.heap.size < (W7.alloc (.cells #[.bool q, .slice (some ⟨gx1, 0, none⟩) n' n', .slice (some ⟨gy1, 0, none⟩) k' k'] 31)).heap.size := by rw [sz1]; omega
        have e_x00 := F.get 1 0 rfl rfl
        have e_x01 := F.get 1 1 rfl rfl
        have e_x02 := F.get 1 2 rfl rfl
        have e_x10 := F.get 0 0 rfl rfl
        have e_x11 := F.get 0 1 rfl rfl
        have e_x12 := F.get 0 2 rfl rfl
        go_wp2_with fail
        clear e_x00 e_x01 e_x02 e_x10 e_x11 e_x12
        generalize W7.alloc (.cells #[.bool q, .slice (some ⟨gx1, 0, none⟩) n' n', .slice (some ⟨gy1, 0, none⟩) k' k'] 31) = W8 at F kb hzW8 owa owb ox0a ox0b ox1a ox1b ⊢
        refine (HI.out _ _ _ _ _ ox0a.rd ox0b.rd ox1a.rd ox1b.rd).mono ?_
        rintro e W9 ⟨Ag0, cg0, Dg0, dg0, rfl, hcg0, hdg0, oga, ogb, hap_g0, hb⟩
        replace F := F.below hb
        replace kb := bt kb hb
        replace owa := owa.below hb
        replace owb := owb.below hb
        replace ox0a := ox0a.below hb
        replace ox0b := ox0b.below hb
        replace ox1a := ox1a.below hb
        replace ox1b := ox1b.below hb
        have hzW9 : W8.heap.size ≤ W9.heap.size := hb.size
        clear hb
        have in_oga := oga.inR VL.out.1
        have in_ogb := ogb.inR VL.out.2.1
        replace F : Fr (W9.alloc (.cells #[.bool s, .slice Ag0 L.length cg0, .slice Dg0 M.length dg0] 31)) _ := F.alloc 31 [.bool s, .slice Ag0 L.length cg0, .slice Dg0 M.length dg0]
        replace kb := kb.alloc kb.size (.cells #[.bool s, .slice Ag0 L.length cg0, .slice Dg0 M.length dg0] 31)
        replace owa := owa.below (ba1 W9 (.cells #[.bool s, .slice Ag0 L.length cg0, .slice Dg0 M.length dg0] 31))
        replace owb := owb.below (ba1 W9 (.cells #[.bool s, .slice Ag0 L.length cg0, .slice Dg0 M.length dg0] 31))
        replace ox0a := ox0a.below (ba1 W9 (.cells #[.bool s, .slice Ag0 L.length cg0, .slice Dg0 M.length dg0] 31))
        replace ox0b := ox0b.below (ba1 W9 (.cells #[.bool s, .slice Ag0 L.length cg0, .slice Dg0 M.length dg0] 31))
        replace ox1a := ox1a.below (ba1 W9 (.cells #[.bool s, .slice Ag0 L.length cg0, .slice Dg0 M.length dg0] 31))
        replace ox1b := ox1b.below (ba1 W9 (.cells #[.bool s, .slice Ag0 L.length cg0, .slice Dg0 M.length dg0] 31))
        replace oga := oga.below (ba1 W9 (.cells #[.bool s, .slice Ag0 L.length cg0, .slice Dg0 M.length dg0] 31))
        replace ogb := ogb.below (ba1 W9 (.cells #[.bool s, .slice Ag0 L.length cg0, .slice Dg0 M.length dg0] 31))
        have hzW10 : W9.heap.size < (W9.alloc (.cells #[.bool s, .slice Ag0 L.length cg0, .slice Dg0 M.length dg0] 31)).heap.size := by rw [sz1]; omega
        have e_g00 := F.get 0 0 rfl rfl
        have e_g01 := F.get 0 1 rfl rfl
        have e_g02 := F.get 0 2 rfl rfl
        have e_w00 := F.get 3 0 rfl rfl
        have e_w01 := F.get 3 1 rfl rfl
        have e_w02 := F.get 3 2 rfl rfl
        go_wp2_with fail
        clear e_g00 e_g01 e_g02 e_w00 e_w01 e_w02
        generalize W9.alloc (.cells #[.bool s, .slice Ag0 L.length cg0, .slice Dg0 M.length dg0] 31) = W10 at F kb hzW10 owa owb ox0a ox0b ox1a ox1b oga ogb ⊢
        refine (HE.out _ _ _ _ _ _ _ _ _ oga.rd ogb.rd owa.rd owb.rd).mono ?_
        rintro e W11 ⟨rfl, hb⟩
        replace F := F.below hb
        replace kb := bt kb hb
        replace owa := owa.below hb
        replace owb := owb.below hb
        replace ox0a := ox0a.below hb
        replace ox0b := ox0b.below hb
        replace ox1a := ox1a.below hb
        replace ox1b := ox1b.below hb
        replace oga := oga.below hb
        replace ogb := ogb.below hb
        have hzW11 : W10.heap.size ≤ W11.heap.size := hb.size
        clear hb
        go_wp2_with fail
        have e_x00 := F.get 2 0 rfl rfl
        have e_x01 := F.get 2 1 rfl rfl
        have e_x02 := F.get 2 2 rfl rfl
        have e_a00 := F.get 5 0 rfl rfl
        have e_a01 := F.get 5 1 rfl rfl
        have e_a02 := F.get 5 2 rfl rfl
        have SB : Hid (∀ w', Below W11.heap.size W11 w' → (w'.cell? ⟨W5.heap.size, 0, none⟩ = some (.bool p) ∧ w'.cell? ⟨W5.heap.size, 1, none⟩ = some (.slice (some ⟨gx0, 0, none⟩) n n) ∧ w'.cell? ⟨W5.heap.size, 2, none⟩ = some (.slice (some ⟨gy0, 0, none⟩) k k) ∧ w'.cell? ⟨w.heap.size, 0, none⟩ = some (.bool p) ∧ w'.cell? ⟨w.heap.size, 1, none⟩ = some (.slice A n c) ∧ w'.cell? ⟨w.heap.size, 2, none⟩ = some (.slice D k d) ∧ Below W11.heap.size W11 w')) := Lib.hid (fun w' hB => ⟨cell_kept e_x00 hB, cell_kept e_x01 hB, cell_kept e_x02 hB, cell_kept e_a00 hB, cell_kept e_a01 hB, cell_kept e_a02 hB, hB⟩)
        have kr := kb
        go_region_held3 (fun w' => w'.cell? ⟨W5.heap.size, 0, none⟩ = some (.bool p) ∧ w'.cell? ⟨W5.heap.size, 1, none⟩ = some (.slice (some ⟨gx0, 0, none⟩) n n) ∧ w'.cell? ⟨W5.heap.size, 2, none⟩ = some (.slice (some ⟨gy0, 0, none⟩) k k) ∧ w'.cell? ⟨w.heap.size, 0, none⟩ = some (.bool p) ∧ w'.cell? ⟨w.heap.size, 1, none⟩ = some (.slice A n c) ∧ w'.cell? ⟨w.heap.size, 2, none⟩ = some (.slice D k d) ∧ Below W11.heap.size W11 w')
          (first | (exact SB.out _ (Below.refl _ _).drew) | (exact SB.out _ (Below.refl _ _)) | (go_split_ands; exact SB.out _ (bt (by assumption : Below W11.heap.size W11 _) hb)))
          (first | (go_at_call 19; go_split_ands; ((with_reducible refine (T0.out _ (R0.out _ (bt kr (by assumption : Below W11.heap.size W11 _))).1 (R0.out _ (bt kr (by assumption : Below W11.heap.size W11 _))).2).mono ?_); rintro e Wa ⟨ga, gb, rfl, owna, ownb, -, hb⟩)) | (go_at_call 21; go_split_ands; ((with_reducible refine (E0.out _ _ _ _ _ (ox0a.below (by assumption : Below W11.heap.size W11 _)).rd (ox0b.below (by assumption : Below W11.heap.size W11 _)).rd owna.rd ownb.rd).mono ?_); rintro e W12 ⟨rfl, hb⟩; have KB := bt (by assumption : Below W11.heap.size W11 _) hb)))
        clear e_x00 e_x01 e_x02 e_a00 e_a01 e_a02
        replace F := F.below KB
        replace kb := bt kb KB
        replace owa := owa.below KB
        replace owb := owb.below KB
        replace ox0a := ox0a.below KB
        replace ox0b := ox0b.below KB
        replace ox1a := ox1a.below KB
        replace ox1b := ox1b.below KB
        replace oga := oga.below KB
        replace ogb := ogb.below KB
        have hzW12 : W11.heap.size ≤ W12.heap.size := KB.size
        clear KB kr SB owna ownb
        try clear ‹_ ∧ _›
        go_wp2_with fail
        have e_x10 := F.get 1 0 rfl rfl
        have e_x11 := F.get 1 1 rfl rfl
        have e_x12 := F.get 1 2 rfl rfl
        have e_a10 := F.get 4 0 rfl rfl
        have e_a11 := F.get 4 1 rfl rfl
        have e_a12 := F.get 4 2 rfl rfl
        have SB : Hid (∀ w', Below W12.heap.size W12 w' → (w'.cell? ⟨W7.heap.size, 0, none⟩ = some (.bool q) ∧ w'.cell? ⟨W7.heap.size, 1, none⟩ = some (.slice (some ⟨gx1, 0, none⟩) n' n') ∧ w'.cell? ⟨W7.heap.size, 2, none⟩ = some (.slice (some ⟨gy1, 0, none⟩) k' k') ∧ w'.cell? ⟨(w.heap.size + 1), 0, none⟩ = some (.bool q) ∧ w'.cell? ⟨(w.heap.size + 1), 1, none⟩ = some (.slice A' n' c') ∧ w'.cell? ⟨(w.heap.size + 1), 2, none⟩ = some (.slice D' k' d') ∧ Below W12.heap.size W12 w')) := Lib.hid (fun w' hB => ⟨cell_kept e_x10 hB, cell_kept e_x11 hB, cell_kept e_x12 hB, cell_kept e_a10 hB, cell_kept e_a11 hB, cell_kept e_a12 hB, hB⟩)
        have kr := kb
        go_region_held3 (fun w' => w'.cell? ⟨W7.heap.size, 0, none⟩ = some (.bool q) ∧ w'.cell? ⟨W7.heap.size, 1, none⟩ = some (.slice (some ⟨gx1, 0, none⟩) n' n') ∧ w'.cell? ⟨W7.heap.size, 2, none⟩ = some (.slice (some ⟨gy1, 0, none⟩) k' k') ∧ w'.cell? ⟨(w.heap.size + 1), 0, none⟩ = some (.bool q) ∧ w'.cell? ⟨(w.heap.size + 1), 1, none⟩ = some (.slice A' n' c') ∧ w'.cell? ⟨(w.heap.size + 1), 2, none⟩ = some (.slice D' k' d') ∧ Below W12.heap.size W12 w')
          (first | (exact SB.out _ (Below.refl _ _).drew) | (exact SB.out _ (Below.refl _ _)) | (go_split_ands; exact SB.out _ (bt (by assumption : Below W12.heap.size W12 _) hb)))
          (first | (go_at_call 19; go_split_ands; ((with_reducible refine (T1.out _ (R1.out _ (bt kr (by assumption : Below W12.heap.size W12 _))).1 (R1.out _ (bt kr (by assumption : Below W12.heap.size W12 _))).2).mono ?_); rintro e Wa ⟨ga, gb, rfl, owna, ownb, -, hb⟩)) | (go_at_call 21; go_split_ands; ((with_reducible refine (E1.out _ _ _ _ _ (ox1a.below (by assumption : Below W12.heap.size W12 _)).rd (ox1b.below (by assumption : Below W12.heap.size W12 _)).rd owna.rd ownb.rd).mono ?_); rintro e W13 ⟨rfl, hb⟩; have KB := bt (by assumption : Below W12.heap.size W12 _) hb)))
        clear e_x10 e_x11 e_x12 e_a10 e_a11 e_a12
        replace F := F.below KB
        replace kb := bt kb KB
        replace owa := owa.below KB
        replace owb := owb.below KB
        replace ox0a := ox0a.below KB
        replace ox0b := ox0b.below KB
        replace ox1a := ox1a.below KB
        replace ox1b := ox1b.below KB
        replace oga := oga.below KB
        replace ogb := ogb.below KB
        have hzW13 : W12.heap.size ≤ W13.heap.size := KB.size
        clear KB kr SB owna ownb
        try clear ‹_ ∧ _›
        have e_x00 := F.get 2 0 rfl rfl
        have e_x01 := F.get 2 1 rfl rfl
        have e_x02 := F.get 2 2 rfl rfl
        go_wp2_with fail
        clear e_x00 e_x01 e_x02
        refine (M0.out _ _ _ _ ox0a ox0b hapx0).mono ?_
        rintro e W14 ⟨rfl, ox0aq, ox0bq, ⟨WmW14, hgr0, hgr1⟩⟩
        replace F := F.grownR in_ox0a hgr0 (by intro x hx; simp only [List.mem_cons, List.not_mem_nil, or_false] at hx; rcases hx with rfl | rfl | rfl | rfl | rfl | rfl <;> (dsimp only; omega))
        replace kb := below_grownR kb in_ox0a hgr0 (by omega)
        replace owa := owa.apartR VL.out.1 in_owa in_ox0a hgr0 (by omega)
        replace owb := owb.apartR VL.out.2.1 in_owb in_ox0a hgr0 (by omega)
        replace ox1a := ox1a.apartR V1.out.1 in_ox1a in_ox0a hgr0 (by omega)
        replace ox1b := ox1b.apartR V1.out.2 in_ox1b in_ox0a hgr0 (by omega)
        replace oga := oga.apartR VL.out.1 in_oga in_ox0a hgr0 (by omega)
        replace ogb := ogb.apartR VL.out.2.1 in_ogb in_ox0a hgr0 (by omega)
        replace F := F.grownR in_ox0b hgr1 (by intro x hx; simp only [List.mem_cons, List.not_mem_nil, or_false] at hx; rcases hx with rfl | rfl | rfl | rfl | rfl | rfl <;> (dsimp only; omega))
        replace kb := below_grownR kb in_ox0b hgr1 (by omega)
        replace owa := owa.apartR VL.out.1 in_owa in_ox0b hgr1 (by omega)
        replace owb := owb.apartR VL.out.2.1 in_owb in_ox0b hgr1 (by omega)
        replace ox1a := ox1a.apartR V1.out.1 in_ox1a in_ox0b hgr1 (by omega)
        replace ox1b := ox1b.apartR V1.out.2 in_ox1b in_ox0b hgr1 (by omega)
        replace oga := oga.apartR VL.out.1 in_oga in_ox0b hgr1 (by omega)
        replace ogb := ogb.apartR VL.out.2.1 in_ogb in_ox0b hgr1 (by omega)
        have hzW14 : W13.heap.size ≤ W14.heap.size := Nat.le_trans hgr0.size hgr1.size
        clear hgr0 hgr1
        clear ox0a ox0aq in_ox0a
        clear ox0b ox0bq in_ox0b
        have e_x10 := F.get 1 0 rfl rfl
        have e_x11 := F.get 1 1 rfl rfl
        have e_x12 := F.get 1 2 rfl rfl
        go_wp2_with fail
        clear e_x10 e_x11 e_x12
        refine (M1.out _ _ _ _ ox1a ox1b hapx1).mono ?_
        rintro e W15 ⟨rfl, ox1aq, ox1bq, ⟨WmW15, hgr0, hgr1⟩⟩
        replace F := F.grownR in_ox1a hgr0 (by intro x hx; simp only [List.mem_cons, List.not_mem_nil, or_false] at hx; rcases hx with rfl | rfl | rfl | rfl | rfl | rfl <;> (dsimp only; omega))
        replace kb := below_grownR kb in_ox1a hgr0 (by omega)
        replace owa := owa.apartR VL.out.1 in_owa in_ox1a hgr0 (by omega)
        replace owb := owb.apartR VL.out.2.1 in_owb in_ox1a hgr0 (by omega)
        replace oga := oga.apartR VL.out.1 in_oga in_ox1a hgr0 (by omega)
        replace ogb := ogb.apartR VL.out.2.1 in_ogb in_ox1a hgr0 (by omega)
        replace F := F.grownR in_ox1b hgr1 (by intro x hx; simp only [List.mem_cons, List.not_mem_nil, or_false] at hx; rcases hx with rfl | rfl | rfl | rfl | rfl | rfl <;> (dsimp only; omega))
        replace kb := below_grownR kb in_ox1b hgr1 (by omega)
        replace owa := owa.apartR VL.out.1 in_owa in_ox1b hgr1 (by omega)
        replace owb := owb.apartR VL.out.2.1 in_owb in_ox1b hgr1 (by omega)
        replace oga := oga.apartR VL.out.1 in_oga in_ox1b hgr1 (by omega)
        replace ogb := ogb.apartR VL.out.2.1 in_ogb in_ox1b hgr1 (by omega)
        have hzW15 : W14.heap.size ≤ W15.heap.size := Nat.le_trans hgr0.size hgr1.size
        clear hgr0 hgr1
        clear ox1a ox1aq in_ox1a
        clear ox1b ox1bq in_ox1b
        have hkp : ¬ (1 + (n : Int) + (k : Int) + (n' : Int) + (k' : Int)) < 0 := by omega
        have e_g00 := F.get 0 0 rfl rfl
        have e_g01 := F.get 0 1 rfl rfl
        have e_g02 := F.get 0 2 rfl rfl
        have e_w00 := F.get 3 0 rfl rfl
        have e_w01 := F.get 3 1 rfl rfl
        have e_w02 := F.get 3 2 rfl rfl
        go_wp2_with fail
        clear e_g00 e_g01 e_g02 e_w00 e_w01 e_w02
        refine (HE.out _ _ _ _ _ _ _ _ _ oga.rd ogb.rd owa.rd owb.rd).mono ?_
        rintro e W16 ⟨rfl, hb⟩
        replace F := F.below hb
        replace kb := bt kb hb
        replace owa := owa.below hb
        replace owb := owb.below hb
        replace oga := oga.below hb
        replace ogb := ogb.below hb
        have hzW16 : W15.heap.size ≤ W16.heap.size := hb.size
        clear hb
        have e_g00 := F.get 0 0 rfl rfl
        have e_g01 := F.get 0 1 rfl rfl
        have e_g02 := F.get 0 2 rfl rfl
        go_wp2_with fail
        clear e_g00 e_g01 e_g02
        refine (HM.out _ _ _ _ _ _ oga ogb hap_g0).mono ?_
        rintro e W17 ⟨rfl, ogaq, ogbq, ⟨WmW17, hgr0, hgr1⟩⟩
        replace F := F.grownR in_oga hgr0 (by intro x hx; simp only [List.mem_cons, List.not_mem_nil, or_false] at hx; rcases hx with rfl | rfl | rfl | rfl | rfl | rfl <;> (dsimp only; omega))
        replace kb := below_grownR kb in_oga hgr0 (by omega)
        replace owa := owa.apartR VL.out.1 in_owa in_oga hgr0 (by omega)
        replace owb := owb.apartR VL.out.2.1 in_owb in_oga hgr0 (by omega)
        replace F := F.grownR in_ogb hgr1 (by intro x hx; simp only [List.mem_cons, List.not_mem_nil, or_false] at hx; rcases hx with rfl | rfl | rfl | rfl | rfl | rfl <;> (dsimp only; omega))
        replace kb := below_grownR kb in_ogb hgr1 (by omega)
        replace owa := owa.apartR VL.out.1 in_owa in_ogb hgr1 (by omega)
        replace owb := owb.apartR VL.out.2.1 in_owb in_ogb hgr1 (by omega)
        have hzW17 : W16.heap.size ≤ W17.heap.size := Nat.le_trans hgr0.size hgr1.size
        clear hgr0 hgr1
        clear oga
        have oga := ogaq
        clear ogaq
        clear ogb
        have ogb := ogbq
        clear ogbq
        have e_g00 := F.get 0 0 rfl rfl
        have e_g01 := F.get 0 1 rfl rfl
        have e_g02 := F.get 0 2 rfl rfl
        go_wp2_with fail
        clear e_g00 e_g01 e_g02
        refine (HH.out _ _ _ _ _ oga.rd ogb.rd).mono ?_
        rintro e W18 ⟨rfl, hb⟩
        replace F := F.below hb
        replace kb := bt kb hb
        replace owa := owa.below hb
        replace owb := owb.below hb
        replace oga := oga.below hb
        replace ogb := ogb.below hb
        have hzW18 : W17.heap.size ≤ W18.heap.size := hb.size
        clear hb
        go_wp2_with fail
        have e_a00 := F.get 5 0 rfl rfl
        have e_a01 := F.get 5 1 rfl rfl
        have e_a02 := F.get 5 2 rfl rfl
        have e_a10 := F.get 4 0 rfl rfl
        have e_a11 := F.get 4 1 rfl rfl
        have e_a12 := F.get 4 2 rfl rfl
        have SB : Hid (∀ w', Below W18.heap.size W18 w' → (w'.cell? ⟨w.heap.size, 0, none⟩ = some (.bool p) ∧ w'.cell? ⟨w.heap.size, 1, none⟩ = some (.slice A n c) ∧ w'.cell? ⟨w.heap.size, 2, none⟩ = some (.slice D k d) ∧ w'.cell? ⟨(w.heap.size + 1), 0, none⟩ = some (.bool q) ∧ w'.cell? ⟨(w.heap.size + 1), 1, none⟩ = some (.slice A' n' c') ∧ w'.cell? ⟨(w.heap.size + 1), 2, none⟩ = some (.slice D' k' d') ∧ Below W18.heap.size W18 w')) := Lib.hid (fun w' hB => ⟨cell_kept e_a00 hB, cell_kept e_a01 hB, cell_kept e_a02 hB, cell_kept e_a10 hB, cell_kept e_a11 hB, cell_kept e_a12 hB, hB⟩)
        have kr := kb
        go_cut [13] (fun sv wx => CutR W18 31 s L M sv wx)
        case first =>
          go_region_held3 (fun w' => w'.cell? ⟨w.heap.size, 0, none⟩ = some (.bool p) ∧ w'.cell? ⟨w.heap.size, 1, none⟩ = some (.slice A n c) ∧ w'.cell? ⟨w.heap.size, 2, none⟩ = some (.slice D k d) ∧ w'.cell? ⟨(w.heap.size + 1), 0, none⟩ = some (.bool q) ∧ w'.cell? ⟨(w.heap.size + 1), 1, none⟩ = some (.slice A' n' c') ∧ w'.cell? ⟨(w.heap.size + 1), 2, none⟩ = some (.slice D' k' d') ∧ Below W18.heap.size W18 w')
            (first | (exact SB.out _ (Below.refl _ _).drew) | (exact SB.out _ (ba1 _ _).drew) | (exact SB.out _ (ba1 _ _)) | (go_split_ands; exact SB.out _ (bt (by assumption : Below W18.heap.size W18 _) hb)) | (go_split_ands; exact SB.out _ (Below.alloc (by assumption : Below W18.heap.size W18 _) (Below.size (by assumption : Below W18.heap.size W18 _)) _)) | (go_split_ands; exact SB.out _ (below_put3 (by assumption : Below W18.heap.size W18 _) (by first | exact Nat.le_refl _ | assumption) _ _ _)))
            (first | (go_at_call 19; go_split_ands; ((with_reducible refine (T0.out _ (R0.out _ (bt kr (by assumption : Below W18.heap.size W18 _))).1 (R0.out _ (bt kr (by assumption : Below W18.heap.size W18 _))).2).mono ?_); rintro e Wa ⟨ga, gb, rfl, owna, ownb, -, hb⟩; have hsA := (bt (by assumption : Below W18.heap.size W18 _) hb).size; (first | (have tt := (tt_a hb).1; have hgB := (tt_a hb).2) | (have tt := (tt_b hb).1; have hgB := (tt_b hb).2) | (have hgB := (tt_c tt hb).2; replace tt := (tt_c tt hb).1) | skip))) | (go_at_call 19; go_split_ands; ((with_reducible refine (T1.out _ (R1.out _ (bt kr (by assumption : Below W18.heap.size W18 _))).1 (R1.out _ (bt kr (by assumption : Below W18.heap.size W18 _))).2).mono ?_); rintro e Wb ⟨gc, gd, rfl, ownc, ownd, -, hb⟩; have hsB := (bt (by assumption : Below W18.heap.size W18 _) hb).size; (first | (replace owna := owna.below hb) | (replace owna := (owna.below (ba1 _ _)).below hb)); (first | (replace ownb := ownb.below hb) | (replace ownb := (ownb.below (ba1 _ _)).below hb)); (first | (have tt := (tt_a hb).1; have hgB := (tt_a hb).2) | (have tt := (tt_b hb).1; have hgB := (tt_b hb).2) | (have hgB := (tt_c tt hb).2; replace tt := (tt_c tt hb).1) | skip))) | (go_at_call 53; go_split_ands; ((with_reducible refine (HI.out _ _ _ _ _ (by first | exact owna.rd | exact (owna.below (ba1 _ _)).rd) (by first | exact ownb.rd | exact (ownb.below (ba1 _ _)).rd) (by first | exact ownc.rd | exact (ownc.below (ba1 _ _)).rd) (by first | exact ownd.rd | exact (ownd.below (ba1 _ _)).rd)).mono ?_); rintro e W19 ⟨Ah0, ch0, Dh0, dh0, rfl, hch0, hdh0, oha, ohb, hap_h0, hb⟩; have KB0 := (by assumption : Below W18.heap.size W18 _); have KB := bt KB0 hb; have hsC := KB.size; have hO1 := oha.more KB0.size; have hO2 := ohb.more KB0.size; (first | (have tt := (tt_a hb).1; have hgB := (tt_a hb).2) | (have tt := (tt_b hb).1; have hgB := (tt_b hb).2) | (have hgB := (tt_c tt hb).2; replace tt := (tt_c tt hb).1) | skip); (first | (have t0 := rblk_cell tt 0; have q0 := rblk_free tt 0; have t1 := rblk_cell tt 1; have q1 := rblk_free tt 1; have t2 := rblk_cell tt 2; have q2 := rblk_free tt 2) | skip))))
          all_goals (go_wp2_with fail; go_meet; first | exact ⟨_, Ah0, ch0, Dh0, dh0, rfl, hsC, hch0, hdh0, heap_alloc_new _ _, hO1.below (ba1 _ _), hO2.below (ba1 _ _), hap_h0, KB.alloc KB.size _⟩ | exact ⟨_, Ah0, ch0, Dh0, dh0, rfl, (by first | exact Nat.le_refl _ | assumption), hch0, hdh0, rblk_set (rblk_set (rblk_set tt 0 _) 1 _) 2 _, (own_put3 oha hgB _ _ _).more KB0.size, (own_put3 ohb hgB _ _ _).more KB0.size, hap_h0, below_put3 KB (by first | exact Nat.le_refl _ | assumption) _ _ _⟩)
        case rest =>
          obtain ⟨gvh0, Ah0, ch0, Dh0, dh0, rfl, hloh0, hch0, hdh0, hcl, oha, ohb, hap_h0, KB⟩ := hcut
          obtain ⟨W19, hWn⟩ : ∃ W', W' = wc := ⟨_, rfl⟩
          subst hWn
          clear e_a00 e_a01 e_a02 e_a10 e_a11 e_a12
          have hhih0 := rblk_lt hcl
          replace F := Fr.cons (cells_of_blk (vs := [.bool s, .slice Ah0 L.length ch0, .slice Dh0 M.length dh0]) hcl) (F.below KB)
          replace kb := bt kb KB
          replace owa := owa.below KB
          replace owb := owb.below KB
          replace oga := oga.below KB
          replace ogb := ogb.below KB
          have hzW19 : W18.heap.size ≤ W19.heap.size := KB.size
          have in_oha := oha.inR VL.out.1
          have in_ohb := ohb.inR VL.out.2.1
          clear KB kr SB hcl
          have e_h00 := F.get 0 0 rfl rfl
          have e_h01 := F.get 0 1 rfl rfl
          have e_h02 := F.get 0 2 rfl rfl
          have e_w00 := F.get 4 0 rfl rfl
          have e_w01 := F.get 4 1 rfl rfl
          have e_w02 := F.get 4 2 rfl rfl
          go_wp2_with fail
          clear e_h00 e_h01 e_h02 e_w00 e_w01 e_w02
          refine (HE.out _ _ _ _ _ _ _ _ _ oha.rd ohb.rd owa.rd owb.rd).mono ?_
          rintro e W20 ⟨rfl, hb⟩
          replace F := F.below hb
          replace kb := bt kb hb
          replace owa := owa.below hb
          replace owb := owb.below hb
          replace oga := oga.below hb
          replace ogb := ogb.below hb
          replace oha := oha.below hb
          replace ohb := ohb.below hb
          have hzW20 : W19.heap.size ≤ W20.heap.size := hb.size
          clear hb
          have e_g00 := F.get 1 0 rfl rfl
          have e_g01 := F.get 1 1 rfl rfl
          have e_g02 := F.get 1 2 rfl rfl
          go_wp2_with fail
          clear e_g00 e_g01 e_g02
          refine (HH.out _ _ _ _ _ oga.rd ogb.rd).mono ?_
          rintro e W21 ⟨rfl, hb⟩
          replace F := F.below hb
          replace kb := bt kb hb
          replace owa := owa.below hb
          replace owb := owb.below hb
          replace oga := oga.below hb
          replace ogb := ogb.below hb
          replace oha := oha.below hb
          replace ohb := ohb.below hb
          have hzW21 : W20.heap.size ≤ W21.heap.size := hb.size
          clear hb
          go_wp2
          go_ret
          exact ⟨rfl, kb⟩
    · have SZ0 := Lib.hid (fun W => szRat_yes p A D n c k d (1048576) W (by omega) (by omega) hg0)
      have hs0 : ¬ 1048576 - (n : Int) - (k : Int) < 0 := by omega
      have SZ1 := Lib.hid (fun W => szRat_no q A' D' n' c' k' d' (1048576 - (n : Int) - (k : Int)) W (by omega) (by omega) hn1 hk1 hg1)
      clear hg1 hl0 hm0 hA0 hD0 hl1 hm1 hA1 hD1
      go_enter Try.func16, Try.ntmps16
      go_wp2_with fail
      have F := (Fr.nil w).alloc 26 [.bool p, .slice A n c, .slice D k d]
      replace F : Fr (w.alloc (.cells #[.bool p, .slice A n c, .slice D k d] 26)) _ := F
      replace F : Fr ((w.alloc (.cells #[.bool p, .slice A n c, .slice D k d] 26)).alloc (.cells #[.bool q, .slice A' n' c', .slice D' k' d'] 26)) _ := F.alloc 26 [.bool q, .slice A' n' c', .slice D' k' d']
      have kb := ba2 w (.cells #[.bool p, .slice A n c, .slice D k d] 26) (.cells #[.bool q, .slice A' n' c', .slice D' k' d'] 26)
      rw [sz1] at F
      generalize (w.alloc (.cells #[.bool p, .slice A n c, .slice D k d] 26)).alloc (.cells #[.bool q, .slice A' n' c', .slice D' k' d'] 26) = W1 at F kb ⊢
      refine (SZ0.out _).mono ?_
      rintro e W2 ⟨rfl, hb⟩
      replace F := F.below hb
      replace kb := bt kb hb
      clear hb
      have e0 := F.get 0 0 rfl rfl
      have e1 := F.get 0 1 rfl rfl
      have e2 := F.get 0 2 rfl rfl
      go_wp2_with fail
      refine (SZ1.out _).mono ?_
      rintro e W3 ⟨rfl, hb⟩
      replace kb := bt kb hb
      go_wp2
      go_ret
      exact ⟨rfl, kb⟩
  · have SZ := Lib.hid (fun W => szRat_no p A D n c k d (1048576) W (by omega) (by omega) hn0 hk0 hg0)
    clear hg0 hl0 hm0 hA0 hD0 hl1 hm1 hA1 hD1
    go_enter Try.func16, Try.ntmps16
    go_wp2_with fail
    refine (SZ.out _).mono ?_
    rintro e W2 ⟨rfl, hb⟩
    have kb := (ba2 _ _ _ ).trans (hb.mono (by rw [sz2]; omega))
    go_wp2
    go_ret
    exact ⟨rfl, kb⟩
end Go.Proofs.Ytpmndiajecmfcaa
