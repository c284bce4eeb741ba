/-
  The walk of the exact law of SquareMesh.
-/
import Derived.Test.YtjcbaiphkchehaaMsH
import Derived.Test.YtjcbaiphkchehaaMsE
import Derived.Test.YtjcbaiphkchehaaSqS
namespace Go.Proofs.Ytjcbaiphkchehaa
open Go.ChangeShapes Go.WideShapes Go.ChangeAt Go.RowKit
open Go.ChangeMaps (open_string shut_string)
set_option linter.unusedVariables false
set_option linter.unusedSimpArgs false
set_option maxRecDepth 4000

theorem szs_dat {L M : List PV} (h : dat M = dat L) : szs M = szs L := by
  induction L generalizing M with
  | nil => obtain rfl : M = [] := List.eq_nil_of_length_eq_zero (dat_len h); rfl
  | cons p L ih =>
    match M, h with
    | q :: M, h =>
      simp only [dat, List.map_cons, List.cons.injEq, Prod.mk.injEq] at h
      show szp q + szs M = szp p + szs L
      rw [ih h.2]; unfold szp; rw [h.1.1, h.1.2]
theorem nxs_dat {L M : List PV} (k : Int) (h : dat M = dat L) : nxs k M = nxs k L := by rw [nxs_eq, nxs_eq, szs_dat h, dat_len h]
def Sm (x : R3) : Prop := x.l.length ≤ 24 ∧ x.m.length ≤ 24
theorem szp_fit {p : PV} (hx : Sm p.x) (hy : Sm p.y) : szp p ≤ 96 ∧ ShortP p := by
  obtain ⟨h1, h2⟩ := hx
  obtain ⟨h3, h4⟩ := hy
  unfold szp szx ShortP Short
  omega
theorem rfi_sm (k : Nat) (h : k ≤ 1000) : Sm (rfi (k : Int)) := by
  have := ln_word (show (k : Int).natAbs ≤ 9223372036854775808 by omega)
  refine ⟨?_, ?_⟩
  · show (zm (k : Int)).length ≤ 24
    rw [zm_length]; omega
  · show (nd 1).length ≤ 24
    rw [nd_one]; decide
theorem ofQ_sm (x y : Int) : Sm (ofO (ofQ x y)) := (ofQ_fit x y).len
/-- A mesh of small fractions. -/
theorem mesh_small {P : List (R3 × R3)} {T : List TV} (hP : ∀ p, p ∈ P → Sm p.1 ∧ Sm p.2) (hl : P.length ≤ 1000) (ht : T.length ≤ 1000) : (((mvOf P T).L.length : Int) + szs (mvOf P T).L ≤ 1048576) ∧ (mvOf P T).T.length ≤ 1048576 ∧ ShortM (mvOf P T) := by
  have key : ∀ Q : List (R3 × R3), (∀ p, p ∈ Q → Sm p.1 ∧ Sm p.2) → szs (Q.map (fun p => (⟨p.1, p.2, noA, noA⟩ : PV))) ≤ 96 * (Q.length : Int) ∧ ∀ p, p ∈ Q.map (fun p => (⟨p.1, p.2, noA, noA⟩ : PV)) → ShortP p := by
    intro Q
    induction Q with
    | nil => intro _; exact ⟨by simp [szs], fun p hp => by cases hp⟩
    | cons q Q ih =>
      intro h
      obtain ⟨i1, i2⟩ := ih (fun p hp => h p (by simp [hp]))
      obtain ⟨k1, k2⟩ := szp_fit (p := ⟨q.1, q.2, noA, noA⟩) (h q (by simp)).1 (h q (by simp)).2
      refine ⟨?_, fun p hp => ?_⟩
      · rw [List.map_cons]
        show szp _ + szs _ ≤ _
        rw [List.length_cons]; omega
      · rw [List.map_cons] at hp
        rcases List.mem_cons.1 hp with e | e
        · subst e; exact k2
        · exact i2 p e
  obtain ⟨k1, k2⟩ := key P hP
  have e1 : (mvOf P T).L.length = P.length := by simp [mvOf]
  have e2 : (mvOf P T).T = T := rfl
  have e3 : szs (mvOf P T).L ≤ 96 * (P.length : Int) := k1
  exact ⟨by rw [e1]; omega, by rw [e2]; omega, by rw [e1]; omega, by rw [e2]; omega, k2⟩
theorem sq_fit (n i : Nat) (hn : n ≤ 3) (hi : i ≤ 9) : ∀ p, p ∈ sqP n i → Sm p.1 ∧ Sm p.2 := fun p hp => by
  rcases List.mem_append.1 hp with h | h
  · obtain ⟨k, hk, rfl⟩ := List.mem_map.1 h
    have hk' := List.mem_range.1 hk
    have hm : (n + 1) * (n + 1) ≤ 16 := by
      have hc : n = 0 ∨ n = 1 ∨ n = 2 ∨ n = 3 := by omega
      rcases hc with rfl | rfl | rfl | rfl <;> decide
    have h1 : k % (n + 1) ≤ k := Nat.mod_le _ _
    have h2 : k / (n + 1) ≤ k := Nat.div_le_self _ _
    exact ⟨rfi_sm _ (by omega), rfi_sm _ (by omega)⟩
  · obtain ⟨k, hk, rfl⟩ := List.mem_map.1 h
    exact ⟨ofQ_sm _ _, ofQ_sm _ _⟩
theorem sqM_facts (n : Int) : ((sqM n).L.length : Int) + szs (sqM n).L ≤ 1048576 ∧ (sqM n).T.length ≤ 1048576 ∧ ShortM (sqM n) := by
  unfold sqM
  split
  · exact mesh_small (sq_fit 1 1 (by omega) (by omega)) (by rw [sqP_len]; omega) (by rw [sqT_len]; omega)
  split
  · exact mesh_small (sq_fit 2 4 (by omega) (by omega)) (by rw [sqP_len]; omega) (by rw [sqT_len]; omega)
  split
  · exact mesh_small (sq_fit 3 9 (by omega) (by omega)) (by rw [sqP_len]; omega) (by rw [sqT_len]; omega)
  · exact mesh_small (fun p hp => by cases hp) (by simp) (by simp)
set_option maxHeartbeats 4000000 in
theorem law_square (n : Int) (w : World) :
    Calls Try.prog 3 #[.int .i64 n] w fun e w' => e = .returned (.bool true) ∧ Below w.heap.size w w' := by
  obtain ⟨m, hm0⟩ : ∃ m : MV, m = sqM n := ⟨_, rfl⟩
  obtain ⟨gg, gt, hm⟩ := sqM_facts n
  rw [← hm0] at gg gt hm
  have HS : Hid (∀ W, Calls Try.prog 5 #[.int .i64 n] W (MadeMi W.heap.size m W)) := Lib.hid (fun W => by rw [hm0]; exact spec_square n W)
  have HI : Hid (∀ W, Calls Try.prog 6 #[.int .i64 n] W (MadeMi W.heap.size m W)) := Lib.hid (fun W => by rw [hm0]; exact impl_square n W)
  clear hm0
  have E := Lib.hid (fun (N K : MV) W hd hd' h1 h2 h3 h4 => eqMesh_t m N K W hm hd hd' h1 h2 h3 h4)
  have hpos : ¬ nxs 1 m.L + 5 * (m.T.length : Int) < 0 := by have := szs_pos m.L; rw [nxs_eq]; omega
  have MK : Hid (∀ (M : MV) (lo hi : Nat) (W : World), datM M = datM m → hi ≤ W.heap.size → Owns lo hi W (srow M.A M.L ++ [(M.B, flatT M.T)]) → Aparts (srow M.A M.L ++ [(M.B, flatT M.T)]) → Calls Try.prog 8 #[.agg #[.slice M.A M.L.length M.c, .slice M.B M.T.length M.d], .int .i64 1] W (fun e w' => e = .returned (.int .i64 (nxs 1 m.L + 5 * (m.T.length : Int))) ∧ Owns lo hi w' (srow M.A (mks 1 M.L) ++ [(M.B, flatT (mksT (nxs 1 M.L) M.T.length M.T))]) ∧ Turn lo hi W w')) := Lib.hid (fun M lo hi W hd hh h1 h2 => by
    have e1 := szs_dat (datM_dat hd)
    have e2 := (datM_len hd).1
    have e3 := nxs_dat 1 (datM_dat hd)
    have e4 := (datM_len hd).2
    have K := markMesh_q lo hi M W (by rw [e1, e2]; omega) (by rw [e4]; exact gt) hh h1 h2
    have e5 : nxs 1 M.L + 5 * (M.T.length : Int) = nxs 1 m.L + 5 * (m.T.length : Int) := by rw [e3, e4]
    rw [e5] at K
    exact K)
  have HH : Hid (∀ (M : MV) (W : World), datM M = datM m → Rds W (srow M.A (mks 1 M.L) ++ [(M.B, flatT (mksT (nxs 1 M.L) M.T.length M.T))]) → Calls Try.prog 9 #[.agg #[.slice M.A M.L.length M.c, .slice M.B M.T.length M.d], .int .i64 1] W (fun e w' => e = .returned (.int .i64 (nxs 1 m.L + 5 * (m.T.length : Int))) ∧ Below W.heap.size W w')) := Lib.hid (fun M W hd h => by
    have e1 := szs_dat (datM_dat hd)
    have e2 := (datM_len hd).1
    have e3 := nxs_dat 1 (datM_dat hd)
    have e4 := (datM_len hd).2
    have K := heldMesh_q M W (by rw [e1, e2]; omega) (by rw [e4]; exact gt) h
    have e5 : nxs 1 M.L + 5 * (M.T.length : Int) = nxs 1 m.L + 5 * (m.T.length : Int) := by rw [e3, e4]
    rw [e5] at K
    exact K)
  generalize nxs 1 m.L + 5 * (m.T.length : Int) = KM at MK HH hpos
  have q3 : (KM != KM) = false := by simp
  clear gg gt hm
  unfold MadeMi at HS HI
  go_enter Try.func3, Try.ntmps3
  go_wp2_with fail
  have kb := Below.refl w.heap.size w
  refine (HS.out _).mono ?_
  rintro e W2 ⟨Mu, rfl, hdu, ou, apu, hb⟩
  have hzW2 : w.heap.size ≤ W2.heap.size := hb.size
  replace kb := bt kb hb
  clear hb
  have P_w := heap_alloc_new W2 (.cells #[.slice Mu.A Mu.L.length Mu.c, .slice Mu.B Mu.T.length Mu.d] 25)
  have hb := ba1 W2 (.cells #[.slice Mu.A Mu.L.length Mu.c, .slice Mu.B Mu.T.length Mu.d] 25)
  replace ou := ou.below hb
  replace kb := bt kb hb
  clear hb
  have hzW3 : W2.heap.size < (W2.alloc (.cells #[.slice Mu.A Mu.L.length Mu.c, .slice Mu.B Mu.T.length Mu.d] 25)).heap.size := by rw [sz1]; omega
  go_wp2_with fail
  generalize W2.alloc (.cells #[.slice Mu.A Mu.L.length Mu.c, .slice Mu.B Mu.T.length Mu.d] 25) = W3 at kb hzW3 P_w ou ⊢
  have hlw := rblk_lt P_w
  refine (HI.out _).mono ?_
  rintro e W4 ⟨Mg, rfl, hdg, og, apg, hb⟩
  have hzW4 : W3.heap.size ≤ W4.heap.size := hb.size
  replace P_w := rblk_below P_w hb
  replace ou := ou.below hb
  replace kb := bt kb hb
  clear hb
  have P_g := heap_alloc_new W4 (.cells #[.slice Mg.A Mg.L.length Mg.c, .slice Mg.B Mg.T.length Mg.d] 25)
  have hb := ba1 W4 (.cells #[.slice Mg.A Mg.L.length Mg.c, .slice Mg.B Mg.T.length Mg.d] 25)
  replace P_w := rblk_below P_w hb
  replace ou := ou.below hb
  replace og := og.below hb
  replace kb := bt kb hb
  clear hb
  have hzW5 : W4.heap.size < (W4.alloc (.cells #[.slice Mg.A Mg.L.length Mg.c, .slice Mg.B Mg.T.length Mg.d] 25)).heap.size := by rw [sz1]; omega
  have c_g0 : (W4.alloc (.cells #[.slice Mg.A Mg.L.length Mg.c, .slice Mg.B Mg.T.length Mg.d] 25)).cell? ⟨W4.heap.size, 0, none⟩ = some (.slice Mg.A Mg.L.length Mg.c) := rblk_cell P_g 0
  have c_g1 : (W4.alloc (.cells #[.slice Mg.A Mg.L.length Mg.c, .slice Mg.B Mg.T.length Mg.d] 25)).cell? ⟨W4.heap.size, 1, none⟩ = some (.slice Mg.B Mg.T.length Mg.d) := rblk_cell P_g 1
  have c_w0 : (W4.alloc (.cells #[.slice Mg.A Mg.L.length Mg.c, .slice Mg.B Mg.T.length Mg.d] 25)).cell? ⟨W2.heap.size, 0, none⟩ = some (.slice Mu.A Mu.L.length Mu.c) := rblk_cell P_w 0
  have c_w1 : (W4.alloc (.cells #[.slice Mg.A Mg.L.length Mg.c, .slice Mg.B Mg.T.length Mg.d] 25)).cell? ⟨W2.heap.size, 1, none⟩ = some (.slice Mu.B Mu.T.length Mu.d) := rblk_cell P_w 1
  go_wp2_with fail
  clear c_g0 c_g1 c_w0 c_w1
  generalize W4.alloc (.cells #[.slice Mg.A Mg.L.length Mg.c, .slice Mg.B Mg.T.length Mg.d] 25) = W5 at kb hzW5 P_w P_g ou og ⊢
  have hlg := rblk_lt P_g
  refine (E.out Mg Mu _ hdg hdu (rds_l og.rds) (rds_r og.rds) (rds_l ou.rds) (rds_r ou.rds)).mono ?_
  rintro e W6 ⟨rfl, hb⟩
  have hzW6 : W5.heap.size ≤ W6.heap.size := hb.size
  replace P_w := rblk_below P_w hb
  replace P_g := rblk_below P_g hb
  replace ou := ou.below hb
  replace og := og.below hb
  replace kb := bt kb hb
  clear hb
  have c_g0 : W6.cell? ⟨W4.heap.size, 0, none⟩ = some (.slice Mg.A Mg.L.length Mg.c) := rblk_cell P_g 0
  have c_g1 : W6.cell? ⟨W4.heap.size, 1, none⟩ = some (.slice Mg.B Mg.T.length Mg.d) := rblk_cell P_g 1
  go_wp2_with fail
  clear c_g0 c_g1
  refine (MK.out Mg _ _ _ hdg (by omega) og apg).mono ?_
  rintro e W7 ⟨rfl, om, hT⟩
  replace P_w := hT.blk P_w (by omega)
  replace P_g := hT.blk P_g (by omega)
  replace kb := hT.below kb (by omega) (by omega)
  replace ou := ou.turn hT (by omega)
  have hz4 := hT.size
  clear hT og apg
  have c_g0 : W7.cell? ⟨W4.heap.size, 0, none⟩ = some (.slice Mg.A Mg.L.length Mg.c) := rblk_cell P_g 0
  have c_g1 : W7.cell? ⟨W4.heap.size, 1, none⟩ = some (.slice Mg.B Mg.T.length Mg.d) := rblk_cell P_g 1
  go_wp2_with fail
  clear c_g0 c_g1
  refine (HH.out Mg _ hdg om.rds).mono ?_
  rintro e W8 ⟨rfl, hb⟩
  have hzW8 : W7.heap.size ≤ W8.heap.size := hb.size
  replace P_w := rblk_below P_w hb
  replace P_g := rblk_below P_g hb
  replace ou := ou.below hb
  replace om := om.below hb
  replace kb := bt kb hb
  clear hb
  go_wp2_with fail
  refine (HI.out _).mono ?_
  rintro e W9 ⟨Mh, rfl, hdh, oh, aph, hb⟩
  have hzW9 : W8.heap.size ≤ W9.heap.size := hb.size
  replace P_w := rblk_below P_w hb
  replace P_g := rblk_below P_g hb
  replace ou := ou.below hb
  replace om := om.below hb
  replace kb := bt kb hb
  clear hb
  have P_h := heap_alloc_new W9 (.cells #[.slice Mh.A Mh.L.length Mh.c, .slice Mh.B Mh.T.length Mh.d] 25)
  have hb := ba1 W9 (.cells #[.slice Mh.A Mh.L.length Mh.c, .slice Mh.B Mh.T.length Mh.d] 25)
  replace P_w := rblk_below P_w hb
  replace P_g := rblk_below P_g hb
  replace ou := ou.below hb
  replace om := om.below hb
  replace oh := oh.below hb
  replace kb := bt kb hb
  clear hb
  have hzW10 : W9.heap.size < (W9.alloc (.cells #[.slice Mh.A Mh.L.length Mh.c, .slice Mh.B Mh.T.length Mh.d] 25)).heap.size := by rw [sz1]; omega
  have c_h0 : (W9.alloc (.cells #[.slice Mh.A Mh.L.length Mh.c, .slice Mh.B Mh.T.length Mh.d] 25)).cell? ⟨W9.heap.size, 0, none⟩ = some (.slice Mh.A Mh.L.length Mh.c) := rblk_cell P_h 0
  have c_h1 : (W9.alloc (.cells #[.slice Mh.A Mh.L.length Mh.c, .slice Mh.B Mh.T.length Mh.d] 25)).cell? ⟨W9.heap.size, 1, none⟩ = some (.slice Mh.B Mh.T.length Mh.d) := rblk_cell P_h 1
  have c_w0 : (W9.alloc (.cells #[.slice Mh.A Mh.L.length Mh.c, .slice Mh.B Mh.T.length Mh.d] 25)).cell? ⟨W2.heap.size, 0, none⟩ = some (.slice Mu.A Mu.L.length Mu.c) := rblk_cell P_w 0
  have c_w1 : (W9.alloc (.cells #[.slice Mh.A Mh.L.length Mh.c, .slice Mh.B Mh.T.length Mh.d] 25)).cell? ⟨W2.heap.size, 1, none⟩ = some (.slice Mu.B Mu.T.length Mu.d) := rblk_cell P_w 1
  go_wp2_with fail
  clear c_h0 c_h1 c_w0 c_w1
  generalize W9.alloc (.cells #[.slice Mh.A Mh.L.length Mh.c, .slice Mh.B Mh.T.length Mh.d] 25) = W10 at kb hzW10 P_w P_g P_h ou om oh ⊢
  refine (E.out Mh Mu _ hdh hdu (rds_l oh.rds) (rds_r oh.rds) (rds_l ou.rds) (rds_r ou.rds)).mono ?_
  rintro e W11 ⟨rfl, hb⟩
  have hzW11 : W10.heap.size ≤ W11.heap.size := hb.size
  replace P_w := rblk_below P_w hb
  replace P_g := rblk_below P_g hb
  replace P_h := rblk_below P_h hb
  replace ou := ou.below hb
  replace om := om.below hb
  replace oh := oh.below hb
  replace kb := bt kb hb
  clear hb
  have c_g0 : W11.cell? ⟨W4.heap.size, 0, none⟩ = some (.slice Mg.A Mg.L.length Mg.c) := rblk_cell P_g 0
  have c_g1 : W11.cell? ⟨W4.heap.size, 1, none⟩ = some (.slice Mg.B Mg.T.length Mg.d) := rblk_cell P_g 1
  go_wp2_with fail
  clear c_g0 c_g1
  refine (HH.out Mg _ hdg om.rds).mono ?_
  rintro e W12 ⟨rfl, hb⟩
  have hzW12 : W11.heap.size ≤ W12.heap.size := hb.size
  replace P_w := rblk_below P_w hb
  replace P_g := rblk_below P_g hb
  replace P_h := rblk_below P_h hb
  replace ou := ou.below hb
  replace om := om.below hb
  replace oh := oh.below hb
  replace kb := bt kb hb
  clear hb
  go_wp2
  go_ret
  exact ⟨rfl, kb⟩
end Go.Proofs.Ytjcbaiphkchehaa
