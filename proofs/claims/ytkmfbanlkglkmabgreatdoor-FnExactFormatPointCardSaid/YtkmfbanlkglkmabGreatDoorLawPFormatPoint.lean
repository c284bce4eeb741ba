/-
  'FnExactFormatPoint' returns true: its walk.
-/
import Derived.Test.YtkmfbanlkglkmabGreatDoorFPt
import Derived.Test.YtkmfbanlkglkmabGreatDoorLawP
import Derived.Deep.RegionHeld3
import Derived.Deep.DeepCutAuto
namespace Go.Proofs.YtkmfbanlkglkmabGreatDoor
open Go.ChangeShapes Go.WideShapes Go.ChangeAt Go.RowKit
open Go.ChangeMaps (open_string shut_string)
set_option linter.unusedVariables false
set_option linter.unusedSimpArgs false
set_option maxRecDepth 4000
set_option maxHeartbeats 4000000 in
theorem law_fmtP (x0 y0 : R3) (a0 b0 : Ad) (w : World) (hx0l : x0.l.length ≤ 9223372036854775807) (hx0m : x0.m.length ≤ 9223372036854775807) (hy0l : y0.l.length ≤ 9223372036854775807) (hy0m : y0.m.length ≤ 9223372036854775807) (h0 : Rds w (rows x0 a0 ++ rows y0 b0)) (htab : Lib.TabIs Tryz.prog w "internal/strconv.uint64pow10" .u64 Lib.pow10Tab) :
    Calls Tryz.prog 3 #[.agg #[.bool x0.p, .slice a0.A x0.l.length a0.c, .slice a0.D x0.m.length a0.d, .bool y0.p, .slice b0.A y0.l.length b0.c, .slice b0.D y0.m.length b0.d]] w fun e w' => e = .returned (.bool true) ∧ Below w.heap.size w w' := by
  obtain ⟨L1, hL1⟩ : ∃ L : Int, L = 1048576 - (szx x0 + szx y0) := ⟨_, rfl⟩
  have hpx0 := szx_pos x0
  have hpy0 := szx_pos y0
  by_cases hg0 : (szx x0 + szx y0) ≤ 1048576
  · have SZ0 := Lib.hid (fun W => szPt_y x0 y0 a0 b0 (1048576) W (by omega) (by omega) hg0)
    rw [← hL1] at SZ0
    have hs0 : ¬ L1 < 0 := by omega
    have shx0 : Short x0 := szx_short (left := 1048576) (by omega) (by omega)
    have shy0 : Short y0 := szx_short (left := 1048576) (by omega) (by omega)
    have T0 := Lib.hid (fun W h => toPt_r x0 y0 a0 b0 W shx0 shy0 h)
    have E0 := Lib.hid (fun (c0 d0 ec0 ed0 : Ad) W h h' => eqPt_t x0 y0 c0 d0 ec0 ed0 W shx0 shy0 h h')
    have R0 : Hid (∀ W, Below w.heap.size w W → Rds W (rows x0 a0 ++ rows y0 b0)) := Lib.hid (fun W hb => h0.below hb)
    have HS := Lib.hid (fun (c0 d0 : Ad) W (k0 : x0.l.length ≤ c0.c ∧ x0.m.length ≤ c0.d ∧ y0.l.length ≤ d0.c ∧ y0.m.length ≤ d0.d) r0 => spec_fmtP x0 y0 c0 d0 W hx0l hx0m hy0l hy0m r0)
    have HI := Lib.hid (fun (c0 d0 : Ad) W (k0 : x0.l.length ≤ c0.c ∧ x0.m.length ≤ c0.d ∧ y0.l.length ≤ d0.c ∧ y0.m.length ≤ d0.d) r0 ht => impl_fmtP x0 y0 c0 d0 W hx0l hx0m hy0l hy0m ht r0)
    have HTAB := Lib.hid htab
    clear htab
    generalize (fmtP x0 y0) = r at HS HI
    clear hg0 hL1 h0 hpx0 hpy0 shx0 shy0 hx0l hx0m hy0l hy0m
    go_enter Tryz.func3, Tryz.ntmps3
    go_wp2_with fail
    have F := Fr.nil w
    have kb := Below.refl w.heap.size w
    replace F : Fr (w.alloc (.cells #[.bool x0.p, .slice a0.A x0.l.length a0.c, .slice a0.D x0.m.length a0.d, .bool y0.p, .slice b0.A y0.l.length b0.c, .slice b0.D y0.m.length b0.d] 28)) _ := F.alloc 28 [.bool x0.p, .slice a0.A x0.l.length a0.c, .slice a0.D x0.m.length a0.d, .bool y0.p, .slice b0.A y0.l.length b0.c, .slice b0.D y0.m.length b0.d]
    replace kb := kb.alloc kb.size (.cells #[.bool x0.p, .slice a0.A x0.l.length a0.c, .slice a0.D x0.m.length a0.d, .bool y0.p, .slice b0.A y0.l.length b0.c, .slice b0.D y0.m.length b0.d] 28)
    have hzW1 : w.heap.size + 1 ≤ (w.alloc (.cells #[.bool x0.p, .slice a0.A x0.l.length a0.c, .slice a0.D x0.m.length a0.d, .bool y0.p, .slice b0.A y0.l.length b0.c, .slice b0.D y0.m.length b0.d] 28)).heap.size := by simp only [sz1]; omega
    generalize w.alloc (.cells #[.bool x0.p, .slice a0.A x0.l.length a0.c, .slice a0.D x0.m.length a0.d, .bool y0.p, .slice b0.A y0.l.length b0.c, .slice b0.D y0.m.length b0.d] 28) = W1 at F kb hzW1 ⊢
    refine (SZ0.out _).mono ?_
    rintro e W2 ⟨rfl, hb⟩
    replace F := F.below hb
    replace kb := bt kb hb
    have hzW2 : W1.heap.size ≤ W2.heap.size := hb.size
    clear hb
    have e_p00 := F.get 0 0 rfl rfl
    have e_p01 := F.get 0 1 rfl rfl
    have e_p02 := F.get 0 2 rfl rfl
    have e_p03 := F.get 0 3 rfl rfl
    have e_p04 := F.get 0 4 rfl rfl
    have e_p05 := F.get 0 5 rfl rfl
    go_wp2_with fail
    clear e_p00 e_p01 e_p02 e_p03 e_p04 e_p05
    refine (T0.out _ (R0.out _ kb)).mono ?_
    rintro e W3 ⟨tw0c0, tw0d0, rfl, hktw0, otw0, haptw0, hb⟩
    replace F := F.below hb
    replace kb := bt kb hb
    have hzW3 : W2.heap.size ≤ W3.heap.size := hb.size
    clear hb
    go_wp2_with fail
    refine (HS.out tw0c0 tw0d0 _ hktw0 otw0.rds).mono ?_
    rintro e W4 ⟨rfl, hb⟩
    replace F := F.below hb
    replace kb := bt kb hb
    replace otw0 := otw0.below hb
    have hzW4 : W3.heap.size ≤ W4.heap.size := hb.size
    clear hb
    clear otw0
    have e_p00 := F.get 0 0 rfl rfl
    have e_p01 := F.get 0 1 rfl rfl
    have e_p02 := F.get 0 2 rfl rfl
    have e_p03 := F.get 0 3 rfl rfl
    have e_p04 := F.get 0 4 rfl rfl
    have e_p05 := F.get 0 5 rfl rfl
    go_wp2_with fail
    clear e_p00 e_p01 e_p02 e_p03 e_p04 e_p05
    refine (T0.out _ (R0.out _ kb)).mono ?_
    rintro e W5 ⟨c0, d0, rfl, hkx0, ox0, hapx0, hb⟩
    replace F := F.below hb
    replace kb := bt kb hb
    have hzW5 : W4.heap.size ≤ W5.heap.size := hb.size
    clear hb
    replace F : Fr (W5.alloc (.cells #[.bool x0.p, .slice c0.A x0.l.length c0.c, .slice c0.D x0.m.length c0.d, .bool y0.p, .slice d0.A y0.l.length d0.c, .slice d0.D y0.m.length d0.d] 35)) _ := F.alloc 35 [.bool x0.p, .slice c0.A x0.l.length c0.c, .slice c0.D x0.m.length c0.d, .bool y0.p, .slice d0.A y0.l.length d0.c, .slice d0.D y0.m.length d0.d]
    replace kb := kb.alloc kb.size (.cells #[.bool x0.p, .slice c0.A x0.l.length c0.c, .slice c0.D x0.m.length c0.d, .bool y0.p, .slice d0.A y0.l.length d0.c, .slice d0.D y0.m.length d0.d] 35)
    replace ox0 := ox0.below (ba1 W5 (.cells #[.bool x0.p, .slice c0.A x0.l.length c0.c, .slice c0.D x0.m.length c0.d, .bool y0.p, .slice d0.A y0.l.length d0.c, .slice d0.D y0.m.length d0.d] 35))
    have hzW6 : W5.heap.size < (W5.alloc (.cells #[.bool x0.p, .slice c0.A x0.l.length c0.c, .slice c0.D x0.m.length c0.d, .bool y0.p, .slice d0.A y0.l.length d0.c, .slice d0.D y0.m.length d0.d] 35)).heap.size := by rw [sz1]; omega
    have e_c00 := F.get 0 0 rfl rfl
    have e_c01 := F.get 0 1 rfl rfl
    have e_c02 := F.get 0 2 rfl rfl
    have e_c03 := F.get 0 3 rfl rfl
    have e_c04 := F.get 0 4 rfl rfl
    have e_c05 := F.get 0 5 rfl rfl
    go_wp2_with fail
    clear e_c00 e_c01 e_c02 e_c03 e_c04 e_c05
    generalize W5.alloc (.cells #[.bool x0.p, .slice c0.A x0.l.length c0.c, .slice c0.D x0.m.length c0.d, .bool y0.p, .slice d0.A y0.l.length d0.c, .slice d0.D y0.m.length d0.d] 35) = W6 at F kb hzW6 ox0 ⊢
    refine (HI.out c0 d0 _ hkx0 ox0.rds (tab_below kb HTAB.out)).mono ?_
    rintro e W7 ⟨rfl, hb⟩
    replace F := F.below hb
    replace kb := bt kb hb
    replace ox0 := ox0.below hb
    have hzW7 : W6.heap.size ≤ W7.heap.size := hb.size
    clear hb
    go_wp2_with fail
    have e_c00 := F.get 0 0 rfl rfl
    have e_c01 := F.get 0 1 rfl rfl
    have e_c02 := F.get 0 2 rfl rfl
    have e_c03 := F.get 0 3 rfl rfl
    have e_c04 := F.get 0 4 rfl rfl
    have e_c05 := F.get 0 5 rfl rfl
    have e_p00 := F.get 1 0 rfl rfl
    have e_p01 := F.get 1 1 rfl rfl
    have e_p02 := F.get 1 2 rfl rfl
    have e_p03 := F.get 1 3 rfl rfl
    have e_p04 := F.get 1 4 rfl rfl
    have e_p05 := F.get 1 5 rfl rfl
    have SB : Hid (∀ w', Below W7.heap.size W7 w' → (w'.cell? ⟨W5.heap.size, 0, none⟩ = some (.bool x0.p) ∧ w'.cell? ⟨W5.heap.size, 1, none⟩ = some (.slice c0.A x0.l.length c0.c) ∧ w'.cell? ⟨W5.heap.size, 2, none⟩ = some (.slice c0.D x0.m.length c0.d) ∧ w'.cell? ⟨W5.heap.size, 3, none⟩ = some (.bool y0.p) ∧ w'.cell? ⟨W5.heap.size, 4, none⟩ = some (.slice d0.A y0.l.length d0.c) ∧ w'.cell? ⟨W5.heap.size, 5, none⟩ = some (.slice d0.D y0.m.length d0.d) ∧ w'.cell? ⟨w.heap.size, 0, none⟩ = some (.bool x0.p) ∧ w'.cell? ⟨w.heap.size, 1, none⟩ = some (.slice a0.A x0.l.length a0.c) ∧ w'.cell? ⟨w.heap.size, 2, none⟩ = some (.slice a0.D x0.m.length a0.d) ∧ w'.cell? ⟨w.heap.size, 3, none⟩ = some (.bool y0.p) ∧ w'.cell? ⟨w.heap.size, 4, none⟩ = some (.slice b0.A y0.l.length b0.c) ∧ w'.cell? ⟨w.heap.size, 5, none⟩ = some (.slice b0.D y0.m.length b0.d) ∧ Below W7.heap.size W7 w')) := Lib.hid (fun w' hB => ⟨cell_kept e_c00 hB, cell_kept e_c01 hB, cell_kept e_c02 hB, cell_kept e_c03 hB, cell_kept e_c04 hB, cell_kept e_c05 hB, cell_kept e_p00 hB, cell_kept e_p01 hB, cell_kept e_p02 hB, cell_kept e_p03 hB, cell_kept e_p04 hB, cell_kept e_p05 hB, hB⟩)
    have kr := kb
    go_region_held3 (fun w' => w'.cell? ⟨W5.heap.size, 0, none⟩ = some (.bool x0.p) ∧ w'.cell? ⟨W5.heap.size, 1, none⟩ = some (.slice c0.A x0.l.length c0.c) ∧ w'.cell? ⟨W5.heap.size, 2, none⟩ = some (.slice c0.D x0.m.length c0.d) ∧ w'.cell? ⟨W5.heap.size, 3, none⟩ = some (.bool y0.p) ∧ w'.cell? ⟨W5.heap.size, 4, none⟩ = some (.slice d0.A y0.l.length d0.c) ∧ w'.cell? ⟨W5.heap.size, 5, none⟩ = some (.slice d0.D y0.m.length d0.d) ∧ w'.cell? ⟨w.heap.size, 0, none⟩ = some (.bool x0.p) ∧ w'.cell? ⟨w.heap.size, 1, none⟩ = some (.slice a0.A x0.l.length a0.c) ∧ w'.cell? ⟨w.heap.size, 2, none⟩ = some (.slice a0.D x0.m.length a0.d) ∧ w'.cell? ⟨w.heap.size, 3, none⟩ = some (.bool y0.p) ∧ w'.cell? ⟨w.heap.size, 4, none⟩ = some (.slice b0.A y0.l.length b0.c) ∧ w'.cell? ⟨w.heap.size, 5, none⟩ = some (.slice b0.D y0.m.length b0.d) ∧ Below W7.heap.size W7 w')
      (first | (with_reducible exact SB.out _ (Below.refl _ _).drew) | (with_reducible exact SB.out _ (Below.refl _ _)) | (go_split_ands; with_reducible exact SB.out _ (bt (by assumption : Below W7.heap.size W7 _) hb)))
      (first | (go_at_call 9; go_split_ands; ((with_reducible refine (T0.out _ (R0.out _ (bt kr (by assumption : Below W7.heap.size W7 _)))).mono ?_); rintro e Wa ⟨sc0, sd0, rfl, hks0, os0, haps0, hb⟩)) | (go_at_call 11; go_split_ands; ((with_reducible refine (E0.out c0 d0 sc0 sd0 _ (ox0.below (by assumption : Below W7.heap.size W7 _)).rds (by first | with_reducible exact os0.rds | with_reducible exact (Owns.drew os0).rds | with_reducible exact (os0.below (ba1 _ _)).rds | with_reducible exact (Owns.drew (os0.below (ba1 _ _))).rds)).mono ?_); rintro e W8 ⟨rfl, hb⟩; have KB := bt (by assumption : Below W7.heap.size W7 _) hb)))
    clear e_c00 e_c01 e_c02 e_c03 e_c04 e_c05 e_p00 e_p01 e_p02 e_p03 e_p04 e_p05
    replace F := F.below KB
    replace kb := bt kb KB
    replace ox0 := ox0.below KB
    have hzW8 : W7.heap.size ≤ W8.heap.size := KB.size
    clear KB kr SB os0
    try clear ‹_ ∧ _›
    go_wp2
    go_ret
    exact ⟨rfl, kb⟩
  · have SZ0 := Lib.hid (fun W => szPt_n x0 y0 a0 b0 (1048576) W hx0l hx0m hy0l hy0m (by omega) (by omega) hg0)
    clear hg0 hL1 h0 hpx0 hpy0 hx0l hx0m hy0l hy0m
    go_enter Tryz.func3, Tryz.ntmps3
    go_wp2_with fail
    have kb := ba1 w (.cells #[.bool x0.p, .slice a0.A x0.l.length a0.c, .slice a0.D x0.m.length a0.d, .bool y0.p, .slice b0.A y0.l.length b0.c, .slice b0.D y0.m.length b0.d] 28)
    have P_p0 := heap_alloc_new w (.cells #[.bool x0.p, .slice a0.A x0.l.length a0.c, .slice a0.D x0.m.length a0.d, .bool y0.p, .slice b0.A y0.l.length b0.c, .slice b0.D y0.m.length b0.d] 28)
    generalize w.alloc (.cells #[.bool x0.p, .slice a0.A x0.l.length a0.c, .slice a0.D x0.m.length a0.d, .bool y0.p, .slice b0.A y0.l.length b0.c, .slice b0.D y0.m.length b0.d] 28) = W1 at kb P_p0 ⊢
    refine (SZ0.out _).mono ?_
    rintro e W2 ⟨rfl, hb⟩
    replace P_p0 := rblk_below P_p0 hb
    replace kb := bt kb hb
    clear hb
    go_wp2
    go_ret
    exact ⟨rfl, kb⟩
end Go.Proofs.YtkmfbanlkglkmabGreatDoor
