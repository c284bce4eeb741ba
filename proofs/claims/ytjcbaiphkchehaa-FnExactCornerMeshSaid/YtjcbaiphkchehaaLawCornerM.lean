/-
  The walk of the exact law of CornerMesh.
-/
import Derived.Test.YtjcbaiphkchehaaMsH
import Derived.Test.YtjcbaiphkchehaaMsE
import Derived.Test.YtjcbaiphkchehaaCoS
import Derived.Test.YtjcbaiphkchehaaSqW
namespace Go.Proofs.Ytjcbaiphkchehaa
open Go.ChangeShapes Go.WideShapes Go.ChangeAt Go.RowKit
open Go.ChangeMaps (open_string shut_string)
set_option linter.unusedVariables false
set_option linter.unusedSimpArgs false
set_option maxRecDepth 4000

theorem co_fit : ∀ p, p ∈ coP 8 → Sm p.1 ∧ Sm p.2 := fun p hp => by
  obtain ⟨k, hk, rfl⟩ := List.mem_map.1 hp
  obtain ⟨h1, h2, _⟩ := c_range k
  have e1 : cx k = ((cx k).toNat : Int) := by omega
  have e2 : cy k = ((cy k).toNat : Int) := by omega
  constructor
  · show Sm (rfi (cx k))
    rw [e1]; exact rfi_sm _ (by omega)
  · show Sm (rfi (cy k))
    rw [e2]; exact rfi_sm _ (by omega)
theorem coM_facts : (coM.L.length : Int) + szs coM.L ≤ 1048576 ∧ coM.T.length ≤ 1048576 ∧ ShortM coM := mesh_small co_fit (by rw [coP_len]; omega) (by rw [coT_len]; omega)
set_option maxHeartbeats 4000000 in
theorem law_cornerMesh (w : World) :
    Calls Try.prog 4 #[] w fun e w' => e = .returned (.bool true) ∧ Below w.heap.size w w' := by
  obtain ⟨m, hm0⟩ : ∃ m : MV, m = coM := ⟨_, rfl⟩
  obtain ⟨gg, gt, hm⟩ := coM_facts
  rw [← hm0] at gg gt hm
  have HS : Hid (∀ W, Calls Try.prog 10 #[] W (MadeMi W.heap.size m W)) := Lib.hid (fun W => by rw [hm0]; exact spec_corner W)
  have HI : Hid (∀ W, Calls Try.prog 11 #[] W (MadeMi W.heap.size m W)) := Lib.hid (fun W => by rw [hm0]; exact impl_corner W)
  clear hm0
  have E := Lib.hid (fun (N K : MV) W hd hd' h1 h2 h3 h4 => eqMesh_t m N K W hm hd hd' h1 h2 h3 h4)
  have hpos : ¬ nxs 1 m.L + 5 * (m.T.length : Int) < 0 := by have := szs_pos m.L; rw [nxs_eq]; omega
  have MK : Hid (∀ (M : MV) (lo hi : Nat) (W : World), datM M = datM m → hi ≤ W.heap.size → Owns lo hi W (srow M.A M.L ++ [(M.B, flatT M.T)]) → Aparts (srow M.A M.L ++ [(M.B, flatT M.T)]) → Calls Try.prog 8 #[.agg #[.slice M.A M.L.length M.c, .slice M.B M.T.length M.d], .int .i64 1] W (fun e w' => e = .returned (.int .i64 (nxs 1 m.L + 5 * (m.T.length : Int))) ∧ Owns lo hi w' (srow M.A (mks 1 M.L) ++ [(M.B, flatT (mksT (nxs 1 M.L) M.T.length M.T))]) ∧ Turn lo hi W w')) := Lib.hid (fun M lo hi W hd hh h1 h2 => by
    have e1 := szs_dat (datM_dat hd)
    have e2 := (datM_len hd).1
    have e3 := nxs_dat 1 (datM_dat hd)
    have e4 := (datM_len hd).2
    have K := markMesh_q lo hi M W (by rw [e1, e2]; omega) (by rw [e4]; exact gt) hh h1 h2
    have e5 : nxs 1 M.L + 5 * (M.T.length : Int) = nxs 1 m.L + 5 * (m.T.length : Int) := by rw [e3, e4]
    rw [e5] at K
    exact K)
  have HH : Hid (∀ (M : MV) (W : World), datM M = datM m → Rds W (srow M.A (mks 1 M.L) ++ [(M.B, flatT (mksT (nxs 1 M.L) M.T.length M.T))]) → Calls Try.prog 9 #[.agg #[.slice M.A M.L.length M.c, .slice M.B M.T.length M.d], .int .i64 1] W (fun e w' => e = .returned (.int .i64 (nxs 1 m.L + 5 * (m.T.length : Int))) ∧ Below W.heap.size W w')) := Lib.hid (fun M W hd h => by
    have e1 := szs_dat (datM_dat hd)
    have e2 := (datM_len hd).1
    have e3 := nxs_dat 1 (datM_dat hd)
    have e4 := (datM_len hd).2
    have K := heldMesh_q M W (by rw [e1, e2]; omega) (by rw [e4]; exact gt) h
    have e5 : nxs 1 M.L + 5 * (M.T.length : Int) = nxs 1 m.L + 5 * (m.T.length : Int) := by rw [e3, e4]
    rw [e5] at K
    exact K)
  generalize nxs 1 m.L + 5 * (m.T.length : Int) = KM at MK HH hpos
  have q3 : (KM != KM) = false := by simp
  clear gg gt hm
  unfold MadeMi at HS HI
  go_enter Try.func4, Try.ntmps4
  go_wp2_with fail
  have kb := Below.refl w.heap.size w
  refine (HS.out _).mono ?_
  rintro e W2 ⟨Mu, rfl, hdu, ou, apu, hb⟩
  have hzW2 : w.heap.size ≤ W2.heap.size := hb.size
  replace kb := bt kb hb
  clear hb
  have P_w := heap_alloc_new W2 (.cells #[.slice Mu.A Mu.L.length Mu.c, .slice Mu.B Mu.T.length Mu.d] 25)
  have hb := ba1 W2 (.cells #[.slice Mu.A Mu.L.length Mu.c, .slice Mu.B Mu.T.length Mu.d] 25)
  replace ou := ou.below hb
  replace kb := bt kb hb
  clear hb
  have hzW3 : W2.heap.size < (W2.alloc (.cells #[.slice Mu.A Mu.L.length Mu.c, .slice Mu.B Mu.T.length Mu.d] 25)).heap.size := by rw [sz1]; omega
  go_wp2_with fail
  generalize W2.alloc (.cells #[.slice Mu.A Mu.L.length Mu.c, .slice Mu.B Mu.T.length Mu.d] 25) = W3 at kb hzW3 P_w ou ⊢
  have hlw := rblk_lt P_w
  refine (HI.out _).mono ?_
  rintro e W4 ⟨Mg, rfl, hdg, og, apg, hb⟩
  have hzW4 : W3.heap.size ≤ W4.heap.size := hb.size
  replace P_w := rblk_below P_w hb
  replace ou := ou.below hb
  replace kb := bt kb hb
  clear hb
  have P_g := heap_alloc_new W4 (.cells #[.slice Mg.A Mg.L.length Mg.c, .slice Mg.B Mg.T.length Mg.d] 25)
  have hb := ba1 W4 (.cells #[.slice Mg.A Mg.L.length Mg.c, .slice Mg.B Mg.T.length Mg.d] 25)
  replace P_w := rblk_below P_w hb
  replace ou := ou.below hb
  replace og := og.below hb
  replace kb := bt kb hb
  clear hb
  have hzW5 : W4.heap.size < (W4.alloc (.cells #[.slice Mg.A Mg.L.length Mg.c, .slice Mg.B Mg.T.length Mg.d] 25)).heap.size := by rw [sz1]; omega
  have c_g0 : (W4.alloc (.cells #[.slice Mg.A Mg.L.length Mg.c, .slice Mg.B Mg.T.length Mg.d] 25)).cell? ⟨W4.heap.size, 0, none⟩ = some (.slice Mg.A Mg.L.length Mg.c) := rblk_cell P_g 0
  have c_g1 : (W4.alloc (.cells #[.slice Mg.A Mg.L.length Mg.c, .slice Mg.B Mg.T.length Mg.d] 25)).cell? ⟨W4.heap.size, 1, none⟩ = some (.slice Mg.B Mg.T.length Mg.d) := rblk_cell P_g 1
  have c_w0 : (W4.alloc (.cells #[.slice Mg.A Mg.L.length Mg.c, .slice Mg.B Mg.T.length Mg.d] 25)).cell? ⟨W2.heap.size, 0, none⟩ = some (.slice Mu.A Mu.L.length Mu.c) := rblk_cell P_w 0
  have c_w1 : (W4.alloc (.cells #[.slice Mg.A Mg.L.length Mg.c, .slice Mg.B Mg.T.length Mg.d] 25)).cell? ⟨W2.heap.size, 1, none⟩ = some (.slice Mu.B Mu.T.length Mu.d) := rblk_cell P_w 1
  go_wp2_with fail
  clear c_g0 c_g1 c_w0 c_w1
  generalize W4.alloc (.cells #[.slice Mg.A Mg.L.length Mg.c, .slice Mg.B Mg.T.length Mg.d] 25) = W5 at kb hzW5 P_w P_g ou og ⊢
  have hlg := rblk_lt P_g
  refine (E.out Mg Mu _ hdg hdu (rds_l og.rds) (rds_r og.rds) (rds_l ou.rds) (rds_r ou.rds)).mono ?_
  rintro e W6 ⟨rfl, hb⟩
  have hzW6 : W5.heap.size ≤ W6.heap.size := hb.size
  replace P_w := rblk_below P_w hb
  replace P_g := rblk_below P_g hb
  replace ou := ou.below hb
  replace og := og.below hb
  replace kb := bt kb hb
  clear hb
  have c_g0 : W6.cell? ⟨W4.heap.size, 0, none⟩ = some (.slice Mg.A Mg.L.length Mg.c) := rblk_cell P_g 0
  have c_g1 : W6.cell? ⟨W4.heap.size, 1, none⟩ = some (.slice Mg.B Mg.T.length Mg.d) := rblk_cell P_g 1
  go_wp2_with fail
  clear c_g0 c_g1
  refine (MK.out Mg _ _ _ hdg (by omega) og apg).mono ?_
  rintro e W7 ⟨rfl, om, hT⟩
  replace P_w := hT.blk P_w (by omega)
  replace P_g := hT.blk P_g (by omega)
  replace kb := hT.below kb (by omega) (by omega)
  replace ou := ou.turn hT (by omega)
  have hz4 := hT.size
  clear hT og apg
  have c_g0 : W7.cell? ⟨W4.heap.size, 0, none⟩ = some (.slice Mg.A Mg.L.length Mg.c) := rblk_cell P_g 0
  have c_g1 : W7.cell? ⟨W4.heap.size, 1, none⟩ = some (.slice Mg.B Mg.T.length Mg.d) := rblk_cell P_g 1
  go_wp2_with fail
  clear c_g0 c_g1
  refine (HH.out Mg _ hdg om.rds).mono ?_
  rintro e W8 ⟨rfl, hb⟩
  have hzW8 : W7.heap.size ≤ W8.heap.size := hb.size
  replace P_w := rblk_below P_w hb
  replace P_g := rblk_below P_g hb
  replace ou := ou.below hb
  replace om := om.below hb
  replace kb := bt kb hb
  clear hb
  go_wp2_with fail
  refine (HI.out _).mono ?_
  rintro e W9 ⟨Mh, rfl, hdh, oh, aph, hb⟩
  have hzW9 : W8.heap.size ≤ W9.heap.size := hb.size
  replace P_w := rblk_below P_w hb
  replace P_g := rblk_below P_g hb
  replace ou := ou.below hb
  replace om := om.below hb
  replace kb := bt kb hb
  clear hb
  have P_h := heap_alloc_new W9 (.cells #[.slice Mh.A Mh.L.length Mh.c, .slice Mh.B Mh.T.length Mh.d] 25)
  have hb := ba1 W9 (.cells #[.slice Mh.A Mh.L.length Mh.c, .slice Mh.B Mh.T.length Mh.d] 25)
  replace P_w := rblk_below P_w hb
  replace P_g := rblk_below P_g hb
  replace ou := ou.below hb
  replace om := om.below hb
  replace oh := oh.below hb
  replace kb := bt kb hb
  clear hb
  have hzW10 : W9.heap.size < (W9.alloc (.cells #[.slice Mh.A Mh.L.length Mh.c, .slice Mh.B Mh.T.length Mh.d] 25)).heap.size := by rw [sz1]; omega
  have c_h0 : (W9.alloc (.cells #[.slice Mh.A Mh.L.length Mh.c, .slice Mh.B Mh.T.length Mh.d] 25)).cell? ⟨W9.heap.size, 0, none⟩ = some (.slice Mh.A Mh.L.length Mh.c) := rblk_cell P_h 0
  have c_h1 : (W9.alloc (.cells #[.slice Mh.A Mh.L.length Mh.c, .slice Mh.B Mh.T.length Mh.d] 25)).cell? ⟨W9.heap.size, 1, none⟩ = some (.slice Mh.B Mh.T.length Mh.d) := rblk_cell P_h 1
  have c_w0 : (W9.alloc (.cells #[.slice Mh.A Mh.L.length Mh.c, .slice Mh.B Mh.T.length Mh.d] 25)).cell? ⟨W2.heap.size, 0, none⟩ = some (.slice Mu.A Mu.L.length Mu.c) := rblk_cell P_w 0
  have c_w1 : (W9.alloc (.cells #[.slice Mh.A Mh.L.length Mh.c, .slice Mh.B Mh.T.length Mh.d] 25)).cell? ⟨W2.heap.size, 1, none⟩ = some (.slice Mu.B Mu.T.length Mu.d) := rblk_cell P_w 1
  go_wp2_with fail
  clear c_h0 c_h1 c_w0 c_w1
  generalize W9.alloc (.cells #[.slice Mh.A Mh.L.length Mh.c, .slice Mh.B Mh.T.length Mh.d] 25) = W10 at kb hzW10 P_w P_g P_h ou om oh ⊢
  refine (E.out Mh Mu _ hdh hdu (rds_l oh.rds) (rds_r oh.rds) (rds_l ou.rds) (rds_r ou.rds)).mono ?_
  rintro e W11 ⟨rfl, hb⟩
  have hzW11 : W10.heap.size ≤ W11.heap.size := hb.size
  replace P_w := rblk_below P_w hb
  replace P_g := rblk_below P_g hb
  replace P_h := rblk_below P_h hb
  replace ou := ou.below hb
  replace om := om.below hb
  replace oh := oh.below hb
  replace kb := bt kb hb
  clear hb
  have c_g0 : W11.cell? ⟨W4.heap.size, 0, none⟩ = some (.slice Mg.A Mg.L.length Mg.c) := rblk_cell P_g 0
  have c_g1 : W11.cell? ⟨W4.heap.size, 1, none⟩ = some (.slice Mg.B Mg.T.length Mg.d) := rblk_cell P_g 1
  go_wp2_with fail
  clear c_g0 c_g1
  refine (HH.out Mg _ hdg om.rds).mono ?_
  rintro e W12 ⟨rfl, hb⟩
  have hzW12 : W11.heap.size ≤ W12.heap.size := hb.size
  replace P_w := rblk_below P_w hb
  replace P_g := rblk_below P_g hb
  replace P_h := rblk_below P_h hb
  replace ou := ou.below hb
  replace om := om.below hb
  replace oh := oh.below hb
  replace kb := bt kb hb
  clear hb
  go_wp2
  go_ret
  exact ⟨rfl, kb⟩
end Go.Proofs.Ytjcbaiphkchehaa
