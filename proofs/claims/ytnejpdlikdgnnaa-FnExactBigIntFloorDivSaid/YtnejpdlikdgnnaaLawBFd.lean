/-
  'FnExactBigIntFloorDiv' returns true: its walk.
-/
import Derived.Test.YtnejpdlikdgnnaaLawBOk
import Derived.Test.YtnejpdlikdgnnaaBigX
import Derived.Deep.RegionHeld3
import Derived.Deep.DeepCutAuto
namespace Go.Proofs.Ytnejpdlikdgnnaa
open Go.ChangeShapes Go.WideShapes Go.ChangeAt Go.RowKit
open Go.ChangeMaps (open_string shut_string)
set_option linter.unusedVariables false
set_option linter.unusedSimpArgs false
set_option maxRecDepth 4000

theorem OwnS.apartD {B n k : Nat} {w w' : World} {A A' : Option Addr} {l : List Value} (h : OwnS B w A l) (hk : l.length = k) (hg : w.grownBy w' (rowOf n A')) (hne : ∀ g g', rowOf n A' = some g → rowOf k A = some g' → g ≠ g') : OwnS B w' A l := by
  by_cases h0 : l.length = 0
  · exact .inl (List.eq_nil_of_length_eq_zero h0)
  · obtain ⟨g, ha, hB, hs, hc, hf⟩ := h.block (by omega)
    have hr : rowOf k A = some g := by unfold rowOf; rw [if_neg (by omega), ha]; rfl
    have hkk : w'.heap[g]? = w.heap[g]? := hg.block g hs (fun e => hne g g e.symm hr rfl)
    refine .inr ⟨g, ha, hB, Nat.lt_of_lt_of_le hs hg.size, fun j hj => ?_, fun j hj => ?_⟩
    · rw [World.cell?_of_block (w := w) (a := ⟨g, j, none⟩) hkk]; exact hc j hj
    · rw [World.frozen?_of_block (w := w) (a := ⟨g, j, none⟩) hkk]; exact hf j hj

set_option maxHeartbeats 2000000 in
theorem law_bfd (p : Bool) (l : List Int) (A : Option Addr) (n c : Nat) (m : List Int) (D : Option Addr) (n' d : Nat) (w : World) (hl0 : l.length = n) (hn0 : n ≤ 9223372036854775807) (hA0 : RdS w A (vi l)) (hl1 : m.length = n') (hn1 : n' ≤ 9223372036854775807) (hA1 : RdS w D (vi m)) :
    Calls Try.prog 11 #[.agg #[.bool p, .slice A n c], .slice D n' d] w fun e w' => e = .returned (.bool true) ∧ Below w.heap.size w w' := by
  by_cases hg1 : n' ≤ 1048576
  · by_cases hg0 : (n : Int) ≤ 1048576
    · have hk0 : n ≤ 1048576 := by omega
      have SZ0 := Lib.hid (fun W => szBig_yes p A n c 1048576 W (by omega) (by omega) hg0)
      have hs0 : ¬ 1048576 - (n : Int) < 0 := by omega
      have hs1 : ¬ (1048576 : Int) < (n' : Int) := by omega
      have T0 := Lib.hid (fun W h => toBig_any p l A n c W hl0 hk0 h)
      have T1 := Lib.hid (fun W h => toIntS_any m D n' d W hl1 hg1 h)
      have E0 := Lib.hid (fun g g' W h h' => eqBig_same p l (some ⟨g, 0, none⟩) (some ⟨g', 0, none⟩) n n n W hl0 (by omega) h h')
      have E1 := Lib.hid (fun g g' W h h' => eqIntS_same m (some ⟨g, 0, none⟩) (some ⟨g', 0, none⟩) n' n' n' W hl1 (by omega) h h')
      have M0 := Lib.hid (fun B g W h => markBig_any B p (vi l) (some ⟨g, 0, none⟩) n n 1 W (by rw [vi_length, hl0]) (by omega) (by omega) h)
      have M1 := Lib.hid (fun B g W h => markIntS_any B (vi m) (some ⟨g, 0, none⟩) n' n' (1 + (n : Int)) W (by rw [vi_length, hl1]) (by omega) (by omega) h)
      have V0 : Hid ((vi l).length = n) := Lib.hid (by rw [vi_length, hl0])
      have R0 : Hid (∀ W, Below w.heap.size w W → RdS W A (vi l)) := Lib.hid (fun W hb => hA0.below hb)
      have V1 : Hid ((vi m).length = n') := Lib.hid (by rw [vi_length, hl1])
      have R1 : Hid (∀ W, Below w.heap.size w W → RdS W D (vi m)) := Lib.hid (fun W hb => hA1.below hb)
      have HS := Lib.hid (fun g g' W h h' => spec_fd p l m (some ⟨g, 0, none⟩) (some ⟨g', 0, none⟩) n n n' n' W hl0 hl1 hn0 hn1 h h')
      have HI := Lib.hid (fun g g' W h h' => impl_fd p l m (some ⟨g, 0, none⟩) (some ⟨g', 0, none⟩) n n n' n' W hl0 hl1 hn0 hn1 h h')
      have hlenL : (fdL p l m).length ≤ 60 := (fd_len p l m).1
      have hlenM : (fdM p l m).length ≤ 60 := (fd_len p l m).2
      clear hl0 hA0 hl1 hA1
      generalize fdL p l m = L at HS HI hlenL
      generalize fdM p l m = M at HS HI hlenM
      generalize fdS p l m = s at HS HI
      have HEL := Lib.hid (fun A D c d W h h' => eqBig_same s L A D L.length c d W rfl (by omega) h h')
      have HEM := Lib.hid (fun A D c d W h h' => eqIntS_same M A D M.length c d W rfl (by omega) h h')
      have HML : Hid (∀ B A c W, OwnS B W A (vi L) → Calls Try.prog 19 #[.agg #[.bool s, .slice A L.length c], .int .i64 1] W fun e w' => e = .returned (.int .i64 (mk1 L.length)) ∧ OwnS B w' A (vi (marks 1 L.length)) ∧ W.grownBy w' (rowOf L.length A)) := Lib.hid (fun B A c W h => markBig_any B s (vi L) A L.length c 1 W (vi_length L) (by omega) (by omega) h)
      have HMM : Hid (∀ B A c W, OwnS B W A (vi M) → Calls Try.prog 37 #[.slice A M.length c, .int .i64 (mk1 L.length)] W fun e w' => e = .returned (.int .i64 (mk1 L.length + (M.length : Int))) ∧ OwnS B w' A (vi (marks (mk1 L.length) M.length)) ∧ W.grownBy w' (rowOf M.length A)) := Lib.hid (fun B A c W h => markIntS_any B (vi M) A M.length c (mk1 L.length) W (vi_length M) (mk1_pos _) (by have := mk1_le L.length (by omega); omega) h)
      have HHL : Hid (∀ A c W, RdS W A (vi (marks 1 L.length)) → Calls Try.prog 20 #[.agg #[.bool s, .slice A L.length c], .int .i64 1] W fun e w' => e = .returned (.int .i64 (mk1 L.length)) ∧ Below W.heap.size W w') := Lib.hid (fun A c W h => heldBig_any s A L.length c 1 W (by omega) (by omega) h)
      have HHM : Hid (∀ A c W, RdS W A (vi (marks (mk1 L.length) M.length)) → Calls Try.prog 38 #[.slice A M.length c, .int .i64 (mk1 L.length)] W fun e w' => e = .returned (.int .i64 (mk1 L.length + (M.length : Int))) ∧ Below W.heap.size W w') := Lib.hid (fun A c W h => heldIntS_any A M.length c (mk1 L.length) W (mk1_pos _) (by have := mk1_le L.length (by omega); omega) h)
      have VL : Hid ((vi L).length = L.length ∧ (vi (marks 1 L.length)).length = L.length) := Lib.hid ⟨vi_length L, by rw [vi_length, marks_length]⟩
      have VM : Hid ((vi M).length = M.length ∧ (vi (marks (mk1 L.length) M.length)).length = M.length) := Lib.hid ⟨vi_length M, by rw [vi_length, marks_length]⟩
      have hl0 := mk1_pos L.length
      have hl1 : ¬ mk1 L.length < 0 := by omega
      have hl2 : ¬ mk1 L.length + (M.length : Int) < 0 := by omega
      have hl3 : mk1 L.length ≤ 1048577 := mk1_le _ (by omega)
      go_enter Try.func11, Try.ntmps11
      go_wp2_with fail
      have F := Fr.nil w
      have kb := Below.refl w.heap.size w
      replace F : Fr (w.alloc (.cells #[.bool p, .slice A n c] 24)) _ := F.alloc 24 [.bool p, .slice A n c]
      replace kb := kb.alloc kb.size (.cells #[.bool p, .slice A n c] 24)
      have hzW1 : w.heap.size < (w.alloc (.cells #[.bool p, .slice A n c] 24)).heap.size := by rw [sz1]; omega
      generalize w.alloc (.cells #[.bool p, .slice A n c] 24) = W1 at F kb hzW1  ⊢
      refine (SZ0.out _).mono ?_
      rintro e W2 ⟨rfl, hb⟩
      replace F := F.below hb
      replace kb := bt kb hb
      have hzW2 : W1.heap.size ≤ W2.heap.size := hb.size
      clear hb
      have e_a00 := F.get 0 0 rfl rfl
      have e_a01 := F.get 0 1 rfl rfl
      go_wp2_with fail
      clear e_a00 e_a01
      refine (T0.out _ (R0.out _ kb)).mono ?_
      rintro e W3 ⟨gq0, rfl, tq0, hb⟩
      replace F := F.below hb
      replace kb := bt kb hb
      have hzW3 : W2.heap.size ≤ W3.heap.size := hb.size
      clear hb
      have in_tq0 := tq0.inR V0.out
      go_wp2_with fail
      refine (T1.out _ (R1.out _ kb)).mono ?_
      rintro e W4 ⟨gq1, rfl, tq1, hb⟩
      replace F := F.below hb
      replace kb := bt kb hb
      replace tq0 := tq0.below hb
      have hzW4 : W3.heap.size ≤ W4.heap.size := hb.size
      clear hb
      have in_tq1 := tq1.inR V1.out
      go_wp2_with fail
      refine (HS.out _ _ _ tq0.rd tq1.rd).mono ?_
      rintro e W5 ⟨Aw, cw, Dw, dw, rfl, ow0, ow1, hb, -⟩
      replace F := F.below hb
      replace kb := bt kb hb
      replace tq0 := tq0.below hb
      replace tq1 := tq1.below hb
      have hzW5 : W4.heap.size ≤ W5.heap.size := hb.size
      clear hb
      have in_ow0 := ow0.inR VL.out.1
      have in_ow1 := ow1.inR VM.out.1
      clear tq0 in_tq0
      clear tq1 in_tq1
      replace F : Fr (W5.alloc (.cells #[.bool s, .slice Aw L.length cw] 27)) _ := F.alloc 27 [.bool s, .slice Aw L.length cw]
      replace kb := kb.alloc kb.size (.cells #[.bool s, .slice Aw L.length cw] 27)
      replace ow0 := ow0.below (ba1 W5 (.cells #[.bool s, .slice Aw L.length cw] 27))
      replace ow1 := ow1.below (ba1 W5 (.cells #[.bool s, .slice Aw L.length cw] 27))
      have hzW6 : W5.heap.size < (W5.alloc (.cells #[.bool s, .slice Aw L.length cw] 27)).heap.size := by rw [sz1]; omega
      have e_a00 := F.get 1 0 rfl rfl
      have e_a01 := F.get 1 1 rfl rfl
      go_wp2_with fail
      clear e_a00 e_a01
      generalize W5.alloc (.cells #[.bool s, .slice Aw L.length cw] 27) = W6 at F kb hzW6 ow0 ow1 ⊢
      refine (T0.out _ (R0.out _ kb)).mono ?_
      rintro e W7 ⟨gx0, rfl, ox0, hb⟩
      replace F := F.below hb
      replace kb := bt kb hb
      replace ow0 := ow0.below hb
      replace ow1 := ow1.below hb
      have hzW7 : W6.heap.size ≤ W7.heap.size := hb.size
      clear hb
      have in_ox0 := ox0.inR V0.out
      replace F : Fr (W7.alloc (.cells #[.bool p, .slice (some ⟨gx0, 0, none⟩) n n] 27)) _ := F.alloc 27 [.bool p, .slice (some ⟨gx0, 0, none⟩) n n]
      replace kb := kb.alloc kb.size (.cells #[.bool p, .slice (some ⟨gx0, 0, none⟩) n n] 27)
      replace ow0 := ow0.below (ba1 W7 (.cells #[.bool p, .slice (some ⟨gx0, 0, none⟩) n n] 27))
      replace ow1 := ow1.below (ba1 W7 (.cells #[.bool p, .slice (some ⟨gx0, 0, none⟩) n n] 27))
      replace ox0 := ox0.below (ba1 W7 (.cells #[.bool p, .slice (some ⟨gx0, 0, none⟩) n n] 27))
      have hzW8 : W7.heap.size < (W7.alloc (.cells #[.bool p, .slice (some ⟨gx0, 0, none⟩) n n] 27)).heap.size := by rw [sz1]; omega
      go_wp2_with fail
      generalize W7.alloc (.cells #[.bool p, .slice (some ⟨gx0, 0, none⟩) n n] 27) = W8 at F kb hzW8 ow0 ow1 ox0 ⊢
      refine (T1.out _ (R1.out _ kb)).mono ?_
      rintro e W9 ⟨gx1, rfl, ox1, hb⟩
      replace F := F.below hb
      replace kb := bt kb hb
      replace ow0 := ow0.below hb
      replace ow1 := ow1.below hb
      replace ox0 := ox0.below hb
      have hzW9 : W8.heap.size ≤ W9.heap.size := hb.size
      clear hb
      have in_ox1 := ox1.inR V1.out
      have e_x00 := F.get 0 0 rfl rfl
      have e_x01 := F.get 0 1 rfl rfl
      go_wp2_with fail
      clear e_x00 e_x01
      refine (HI.out _ _ _ ox0.rd ox1.rd).mono ?_
      rintro e W10 ⟨Ag, cg, Dg, dg, rfl, og0, og1, hb, hdis⟩
      have HDis := Lib.hid hdis
      clear hdis
      replace F := F.below hb
      replace kb := bt kb hb
      replace ow0 := ow0.below hb
      replace ow1 := ow1.below hb
      replace ox0 := ox0.below hb
      replace ox1 := ox1.below hb
      have hzW10 : W9.heap.size ≤ W10.heap.size := hb.size
      clear hb
      have in_og0 := og0.inR VL.out.1
      have in_og1 := og1.inR VM.out.1
      replace F : Fr (W10.alloc (.cells #[.bool s, .slice Ag L.length cg] 27)) _ := F.alloc 27 [.bool s, .slice Ag L.length cg]
      replace kb := kb.alloc kb.size (.cells #[.bool s, .slice Ag L.length cg] 27)
      replace ow0 := ow0.below (ba1 W10 (.cells #[.bool s, .slice Ag L.length cg] 27))
      replace ow1 := ow1.below (ba1 W10 (.cells #[.bool s, .slice Ag L.length cg] 27))
      replace ox0 := ox0.below (ba1 W10 (.cells #[.bool s, .slice Ag L.length cg] 27))
      replace ox1 := ox1.below (ba1 W10 (.cells #[.bool s, .slice Ag L.length cg] 27))
      replace og0 := og0.below (ba1 W10 (.cells #[.bool s, .slice Ag L.length cg] 27))
      replace og1 := og1.below (ba1 W10 (.cells #[.bool s, .slice Ag L.length cg] 27))
      have hzW11 : W10.heap.size < (W10.alloc (.cells #[.bool s, .slice Ag L.length cg] 27)).heap.size := by rw [sz1]; omega
      have e_g00 := F.get 0 0 rfl rfl
      have e_g01 := F.get 0 1 rfl rfl
      have e_w00 := F.get 2 0 rfl rfl
      have e_w01 := F.get 2 1 rfl rfl
      go_wp2_with fail
      clear e_g00 e_g01 e_w00 e_w01
      generalize W10.alloc (.cells #[.bool s, .slice Ag L.length cg] 27) = W11 at F kb hzW11 ow0 ow1 ox0 ox1 og0 og1 ⊢
      refine (HEL.out _ _ _ _ _ og0.rd ow0.rd).mono ?_
      rintro e W12 ⟨rfl, hb⟩
      replace F := F.below hb
      replace kb := bt kb hb
      replace ow0 := ow0.below hb
      replace ow1 := ow1.below hb
      replace ox0 := ox0.below hb
      replace ox1 := ox1.below hb
      replace og0 := og0.below hb
      replace og1 := og1.below hb
      have hzW12 : W11.heap.size ≤ W12.heap.size := hb.size
      clear hb
      go_wp2_with fail
      refine (HEM.out _ _ _ _ _ og1.rd ow1.rd).mono ?_
      rintro e W13 ⟨rfl, hb⟩
      replace F := F.below hb
      replace kb := bt kb hb
      replace ow0 := ow0.below hb
      replace ow1 := ow1.below hb
      replace ox0 := ox0.below hb
      replace ox1 := ox1.below hb
      replace og0 := og0.below hb
      replace og1 := og1.below hb
      have hzW13 : W12.heap.size ≤ W13.heap.size := hb.size
      clear hb
      go_wp2_with fail
      have e_x00 := F.get 1 0 rfl rfl
      have e_x01 := F.get 1 1 rfl rfl
      have e_a00 := F.get 3 0 rfl rfl
      have e_a01 := F.get 3 1 rfl rfl
      have kr := kb
      go_region_held3 (fun w' => w'.cell? ⟨W7.heap.size, 0, none⟩ = some (.bool p) ∧ w'.cell? ⟨W7.heap.size, 1, none⟩ = some (.slice (some ⟨gx0, 0, none⟩) n n) ∧ w'.cell? ⟨w.heap.size, 0, none⟩ = some (.bool p) ∧ w'.cell? ⟨w.heap.size, 1, none⟩ = some (.slice A n c) ∧ Below W13.heap.size W13 w')
        (first | (exact ⟨e_x00, e_x01, e_a00, e_a01, (Below.refl _ _).drew⟩) | (go_split_ands; exact heldF (by assumption) (by assumption) (by assumption) (by assumption) (by assumption) hb))
        (first | (go_at_call 14; go_split_ands; ((with_reducible refine (T0.out _ (R0.out _ (bt kr (by assumption)))).mono ?_); rintro e Wa ⟨ga, rfl, owna, hb⟩)) | (go_at_call 16; go_split_ands; ((with_reducible refine (E0.out _ _ _ (ox0.below (by assumption)).rd owna.rd).mono ?_); rintro e W14 ⟨rfl, hb⟩; have KB := bt (by assumption : Below W13.heap.size W13 _) hb)))
      clear e_x00 e_x01 e_a00 e_a01
      replace F := F.below KB
      replace kb := bt kb KB
      replace ow0 := ow0.below KB
      replace ow1 := ow1.below KB
      replace ox0 := ox0.below KB
      replace ox1 := ox1.below KB
      replace og0 := og0.below KB
      replace og1 := og1.below KB
      have hzW14 : W13.heap.size ≤ W14.heap.size := KB.size
      clear KB owna kr
      try clear ‹_ ∧ _›
      go_wp2_with fail
      refine (T1.out _ (R1.out _ kb)).mono ?_
      rintro e W15 ⟨gq1, rfl, tq1, hb⟩
      replace F := F.below hb
      replace kb := bt kb hb
      replace ow0 := ow0.below hb
      replace ow1 := ow1.below hb
      replace ox0 := ox0.below hb
      replace ox1 := ox1.below hb
      replace og0 := og0.below hb
      replace og1 := og1.below hb
      have hzW15 : W14.heap.size ≤ W15.heap.size := hb.size
      clear hb
      have in_tq1 := tq1.inR V1.out
      go_wp2_with fail
      refine (E1.out _ _ _ ox1.rd tq1.rd).mono ?_
      rintro e W16 ⟨rfl, hb⟩
      replace F := F.below hb
      replace kb := bt kb hb
      replace ow0 := ow0.below hb
      replace ow1 := ow1.below hb
      replace ox0 := ox0.below hb
      replace ox1 := ox1.below hb
      replace og0 := og0.below hb
      replace og1 := og1.below hb
      replace tq1 := tq1.below hb
      have hzW16 : W15.heap.size ≤ W16.heap.size := hb.size
      clear hb
      clear tq1 in_tq1
      have e_x00 := F.get 1 0 rfl rfl
      have e_x01 := F.get 1 1 rfl rfl
      go_wp2_with fail
      clear e_x00 e_x01
      refine (M0.out _ _ _ ox0).mono ?_
      rintro e W17 ⟨rfl, ox0q, hgr⟩
      replace F := F.grownR in_ox0 hgr (by intro x hx; simp only [List.mem_cons, List.not_mem_nil, or_false] at hx; rcases hx with rfl | rfl | rfl | rfl <;> (dsimp only; omega))
      replace kb := below_grownR kb in_ox0 hgr (by omega)
      replace ow0 := ow0.apartR VL.out.1 in_ow0 in_ox0 hgr (by omega)
      replace ow1 := ow1.apartR VM.out.1 in_ow1 in_ox0 hgr (by omega)
      replace ox1 := ox1.apartR V1.out in_ox1 in_ox0 hgr (by omega)
      replace og0 := og0.apartR VL.out.1 in_og0 in_ox0 hgr (by omega)
      replace og1 := og1.apartR VM.out.1 in_og1 in_ox0 hgr (by omega)
      have hzW17 : W16.heap.size ≤ W17.heap.size := hgr.size
      clear hgr
      clear ox0 ox0q in_ox0
      go_wp2_with fail
      refine (M1.out _ _ _ ox1).mono ?_
      rintro e W18 ⟨rfl, ox1q, hgr⟩
      replace F := F.grownR in_ox1 hgr (by intro x hx; simp only [List.mem_cons, List.not_mem_nil, or_false] at hx; rcases hx with rfl | rfl | rfl | rfl <;> (dsimp only; omega))
      replace kb := below_grownR kb in_ox1 hgr (by omega)
      replace ow0 := ow0.apartR VL.out.1 in_ow0 in_ox1 hgr (by omega)
      replace ow1 := ow1.apartR VM.out.1 in_ow1 in_ox1 hgr (by omega)
      replace og0 := og0.apartR VL.out.1 in_og0 in_ox1 hgr (by omega)
      replace og1 := og1.apartR VM.out.1 in_og1 in_ox1 hgr (by omega)
      have hzW18 : W17.heap.size ≤ W18.heap.size := hgr.size
      clear hgr
      clear ox1 ox1q in_ox1
      have hkp : ¬ (1 + (n : Int) + (n' : Int)) < 0 := by omega
      have e_g00 := F.get 0 0 rfl rfl
      have e_g01 := F.get 0 1 rfl rfl
      have e_w00 := F.get 2 0 rfl rfl
      have e_w01 := F.get 2 1 rfl rfl
      go_wp2_with fail
      clear e_g00 e_g01 e_w00 e_w01
      refine (HEL.out _ _ _ _ _ og0.rd ow0.rd).mono ?_
      rintro e W19 ⟨rfl, hb⟩
      replace F := F.below hb
      replace kb := bt kb hb
      replace ow0 := ow0.below hb
      replace ow1 := ow1.below hb
      replace og0 := og0.below hb
      replace og1 := og1.below hb
      have hzW19 : W18.heap.size ≤ W19.heap.size := hb.size
      clear hb
      go_wp2_with fail
      refine (HEM.out _ _ _ _ _ og1.rd ow1.rd).mono ?_
      rintro e W20 ⟨rfl, hb⟩
      replace F := F.below hb
      replace kb := bt kb hb
      replace ow0 := ow0.below hb
      replace ow1 := ow1.below hb
      replace og0 := og0.below hb
      replace og1 := og1.below hb
      have hzW20 : W19.heap.size ≤ W20.heap.size := hb.size
      clear hb
      have e_g00 := F.get 0 0 rfl rfl
      have e_g01 := F.get 0 1 rfl rfl
      go_wp2_with fail
      clear e_g00 e_g01
      refine (HML.out _ _ _ _ og0).mono ?_
      rintro e W21 ⟨rfl, og0q, hgr⟩
      replace F := F.grownR in_og0 hgr (by intro x hx; simp only [List.mem_cons, List.not_mem_nil, or_false] at hx; rcases hx with rfl | rfl | rfl | rfl <;> (dsimp only; omega))
      replace kb := below_grownR kb in_og0 hgr (by omega)
      replace ow0 := ow0.apartR VL.out.1 in_ow0 in_og0 hgr (by omega)
      replace ow1 := ow1.apartR VM.out.1 in_ow1 in_og0 hgr (by omega)
      replace og1 := og1.apartD VM.out.1 hgr (fun g g' e1 e2 => HDis.out g g' e1 e2)
      have hzW21 : W20.heap.size ≤ W21.heap.size := hgr.size
      clear hgr
      clear og0
      have og0 := og0q
      clear og0q
      go_wp2_with fail
      refine (HMM.out _ _ _ _ og1).mono ?_
      rintro e W22 ⟨rfl, og1q, hgr⟩
      replace F := F.grownR in_og1 hgr (by intro x hx; simp only [List.mem_cons, List.not_mem_nil, or_false] at hx; rcases hx with rfl | rfl | rfl | rfl <;> (dsimp only; omega))
      replace kb := below_grownR kb in_og1 hgr (by omega)
      replace ow0 := ow0.apartR VL.out.1 in_ow0 in_og1 hgr (by omega)
      replace ow1 := ow1.apartR VM.out.1 in_ow1 in_og1 hgr (by omega)
      replace og0 := og0.apartD VL.out.2 hgr (fun g g' e1 e2 => Ne.symm (HDis.out g' g e2 e1))
      have hzW22 : W21.heap.size ≤ W22.heap.size := hgr.size
      clear hgr
      clear og1
      have og1 := og1q
      clear og1q
      have e_g00 := F.get 0 0 rfl rfl
      have e_g01 := F.get 0 1 rfl rfl
      go_wp2_with fail
      clear e_g00 e_g01
      refine (HHL.out _ _ _ og0.rd).mono ?_
      rintro e W23 ⟨rfl, hb⟩
      replace F := F.below hb
      replace kb := bt kb hb
      replace ow0 := ow0.below hb
      replace ow1 := ow1.below hb
      replace og0 := og0.below hb
      replace og1 := og1.below hb
      have hzW23 : W22.heap.size ≤ W23.heap.size := hb.size
      clear hb
      go_wp2_with fail
      refine (HHM.out _ _ _ og1.rd).mono ?_
      rintro e W24 ⟨rfl, hb⟩
      replace F := F.below hb
      replace kb := bt kb hb
      replace ow0 := ow0.below hb
      replace ow1 := ow1.below hb
      replace og0 := og0.below hb
      replace og1 := og1.below hb
      have hzW24 : W23.heap.size ≤ W24.heap.size := hb.size
      clear hb
      have e_a00 := F.get 3 0 rfl rfl
      have e_a01 := F.get 3 1 rfl rfl
      go_wp2_with fail
      clear e_a00 e_a01
      refine (T0.out _ (R0.out _ kb)).mono ?_
      rintro e W25 ⟨gq0, rfl, tq0, hb⟩
      replace F := F.below hb
      replace kb := bt kb hb
      replace ow0 := ow0.below hb
      replace ow1 := ow1.below hb
      replace og0 := og0.below hb
      replace og1 := og1.below hb
      have hzW25 : W24.heap.size ≤ W25.heap.size := hb.size
      clear hb
      have in_tq0 := tq0.inR V0.out
      go_wp2_with fail
      refine (T1.out _ (R1.out _ kb)).mono ?_
      rintro e W26 ⟨gq1, rfl, tq1, hb⟩
      replace F := F.below hb
      replace kb := bt kb hb
      replace ow0 := ow0.below hb
      replace ow1 := ow1.below hb
      replace og0 := og0.below hb
      replace og1 := og1.below hb
      replace tq0 := tq0.below hb
      have hzW26 : W25.heap.size ≤ W26.heap.size := hb.size
      clear hb
      have in_tq1 := tq1.inR V1.out
      go_wp2_with fail
      refine (HI.out _ _ _ tq0.rd tq1.rd).mono ?_
      rintro e W27 ⟨Ah, ch, Dh, dh, rfl, oh0, oh1, hb, -⟩
      replace F := F.below hb
      replace kb := bt kb hb
      replace ow0 := ow0.below hb
      replace ow1 := ow1.below hb
      replace og0 := og0.below hb
      replace og1 := og1.below hb
      replace tq0 := tq0.below hb
      replace tq1 := tq1.below hb
      have hzW27 : W26.heap.size ≤ W27.heap.size := hb.size
      clear hb
      have in_oh0 := oh0.inR VL.out.1
      have in_oh1 := oh1.inR VM.out.1
      clear tq0 in_tq0
      clear tq1 in_tq1
      replace F : Fr (W27.alloc (.cells #[.bool s, .slice Ah L.length ch] 27)) _ := F.alloc 27 [.bool s, .slice Ah L.length ch]
      replace kb := kb.alloc kb.size (.cells #[.bool s, .slice Ah L.length ch] 27)
      replace ow0 := ow0.below (ba1 W27 (.cells #[.bool s, .slice Ah L.length ch] 27))
      replace ow1 := ow1.below (ba1 W27 (.cells #[.bool s, .slice Ah L.length ch] 27))
      replace og0 := og0.below (ba1 W27 (.cells #[.bool s, .slice Ah L.length ch] 27))
      replace og1 := og1.below (ba1 W27 (.cells #[.bool s, .slice Ah L.length ch] 27))
      replace oh0 := oh0.below (ba1 W27 (.cells #[.bool s, .slice Ah L.length ch] 27))
      replace oh1 := oh1.below (ba1 W27 (.cells #[.bool s, .slice Ah L.length ch] 27))
      have hzW28 : W27.heap.size < (W27.alloc (.cells #[.bool s, .slice Ah L.length ch] 27)).heap.size := by rw [sz1]; omega
      have e_h00 := F.get 0 0 rfl rfl
      have e_h01 := F.get 0 1 rfl rfl
      have e_w00 := F.get 3 0 rfl rfl
      have e_w01 := F.get 3 1 rfl rfl
      go_wp2_with fail
      clear e_h00 e_h01 e_w00 e_w01
      generalize W27.alloc (.cells #[.bool s, .slice Ah L.length ch] 27) = W28 at F kb hzW28 ow0 ow1 og0 og1 oh0 oh1 ⊢
      refine (HEL.out _ _ _ _ _ oh0.rd ow0.rd).mono ?_
      rintro e W29 ⟨rfl, hb⟩
      replace F := F.below hb
      replace kb := bt kb hb
      replace ow0 := ow0.below hb
      replace ow1 := ow1.below hb
      replace og0 := og0.below hb
      replace og1 := og1.below hb
      replace oh0 := oh0.below hb
      replace oh1 := oh1.below hb
      have hzW29 : W28.heap.size ≤ W29.heap.size := hb.size
      clear hb
      go_wp2_with fail
      refine (HEM.out _ _ _ _ _ oh1.rd ow1.rd).mono ?_
      rintro e W30 ⟨rfl, hb⟩
      replace F := F.below hb
      replace kb := bt kb hb
      replace ow0 := ow0.below hb
      replace ow1 := ow1.below hb
      replace og0 := og0.below hb
      replace og1 := og1.below hb
      replace oh0 := oh0.below hb
      replace oh1 := oh1.below hb
      have hzW30 : W29.heap.size ≤ W30.heap.size := hb.size
      clear hb
      have e_g00 := F.get 1 0 rfl rfl
      have e_g01 := F.get 1 1 rfl rfl
      go_wp2_with fail
      clear e_g00 e_g01
      refine (HHL.out _ _ _ og0.rd).mono ?_
      rintro e W31 ⟨rfl, hb⟩
      replace F := F.below hb
      replace kb := bt kb hb
      replace ow0 := ow0.below hb
      replace ow1 := ow1.below hb
      replace og0 := og0.below hb
      replace og1 := og1.below hb
      replace oh0 := oh0.below hb
      replace oh1 := oh1.below hb
      have hzW31 : W30.heap.size ≤ W31.heap.size := hb.size
      clear hb
      go_wp2_with fail
      refine (HHM.out _ _ _ og1.rd).mono ?_
      rintro e W32 ⟨rfl, hb⟩
      replace F := F.below hb
      replace kb := bt kb hb
      replace ow0 := ow0.below hb
      replace ow1 := ow1.below hb
      replace og0 := og0.below hb
      replace og1 := og1.below hb
      replace oh0 := oh0.below hb
      replace oh1 := oh1.below hb
      have hzW32 : W31.heap.size ≤ W32.heap.size := hb.size
      clear hb
      go_wp2
      go_ret
      exact ⟨rfl, kb⟩
    · have SZ := Lib.hid (fun W => szBig_no p A n c 1048576 W (by omega) (by omega) hn0 hg0)
      have hs1 : ¬ (1048576 : Int) < (n' : Int) := by omega
      clear hg0 hl0 hA0 hl1 hA1
      go_enter Try.func11, Try.ntmps11
      go_wp2_with fail
      refine (SZ.out _).mono ?_
      rintro e W2 ⟨rfl, hb⟩
      have kb := (ba1 _ _).trans (hb.mono (by rw [sz1]; omega))
      go_wp2
      go_ret
      exact ⟨rfl, kb⟩
  · have hs1 : (1048576 : Int) < (n' : Int) := by omega
    clear hl0 hA0 hl1 hA1
    go_enter Try.func11, Try.ntmps11
    go_wp2
    go_ret
    exact ⟨rfl, ba1 _ _⟩
end Go.Proofs.Ytnejpdlikdgnnaa
