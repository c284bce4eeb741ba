/-
  The walk of the exact law of Corners.
-/
import Derived.Test.YtenjjojbjpmhbaaLawM
import Derived.Test.YtenjjojbjpmhbaaMsM
import Derived.Test.YtenjjojbjpmhbaaCorS
import Derived.Test.YtenjjojbjpmhbaaSlW
namespace Go.Proofs.Ytenjjojbjpmhbaa
open Go.ChangeShapes Go.WideShapes Go.ChangeAt Go.RowKit
open Go.ChangeMaps (open_string shut_string)
set_option linter.unusedVariables false
set_option linter.unusedSimpArgs false
set_option maxRecDepth 4000

theorem szs_dat {L M : List PV} (h : dat M = dat L) : szs M = szs L := by
  induction L generalizing M with
  | nil => obtain rfl : M = [] := List.eq_nil_of_length_eq_zero (dat_len h); rfl
  | cons p L ih =>
    match M, h with
    | q :: M, h =>
      simp only [dat, List.map_cons, List.cons.injEq, Prod.mk.injEq] at h
      show szp q + szs M = szp p + szs L
      rw [ih h.2]; unfold szp; rw [h.1.1, h.1.2]
theorem nxs_dat {L M : List PV} (k : Int) (h : dat M = dat L) : nxs k M = nxs k L := by rw [nxs_eq, nxs_eq, szs_dat h, dat_len h]
theorem dat_shortM {L M : List PV} (h : dat M = dat L) (hS : ∀ p, p ∈ L → ShortP p) : ∀ p, p ∈ M → ShortP p := fun q hq => by
  obtain ⟨p, hp, e1, e2⟩ := dat_memM h hq
  have := hS p hp
  unfold ShortP at this ⊢
  rw [e1, e2]; exact this
theorem ptAt_short {L : List PV} (hS : ∀ p, p ∈ L → ShortP p) (i : Int) : ShortP (ptAt L i) := by
  unfold ptAt
  rcases Nat.lt_or_ge i.toNat L.length with h1 | h1
  · obtain ⟨p, hp⟩ := getV h1
    rw [hp]; exact hS p (List.mem_of_getElem? hp)
  · rw [List.getElem?_eq_none h1]; exact ⟨⟨by decide, by decide⟩, by decide, by decide⟩
theorem szp_le {p : PV} (h : ShortP p) : szp p ≤ 4194304 := by
  obtain ⟨⟨h1, h2⟩, h3, h4⟩ := h
  unfold szp szx
  omega
theorem corV_facts {L : List PV} (hS : ∀ p, p ∈ L → ShortP p) (T : List TV) (k : Int) : ((corV L T k).length : Int) + szs (corV L T k) ≤ 16777216 ∧ (corV L T k).length ≤ 1048576 ∧ ∀ p, p ∈ corV L T k → ShortP p := by
  have key : ∀ t : TV, (([ptAt L t.a, ptAt L t.b, ptAt L t.c].length : Int) + szs [ptAt L t.a, ptAt L t.b, ptAt L t.c] ≤ 16777216 ∧ [ptAt L t.a, ptAt L t.b, ptAt L t.c].length ≤ 1048576 ∧ ∀ p, p ∈ [ptAt L t.a, ptAt L t.b, ptAt L t.c] → ShortP p) := fun t => by
    have h1 := szp_le (ptAt_short hS t.a)
    have h2 := szp_le (ptAt_short hS t.b)
    have h3 := szp_le (ptAt_short hS t.c)
    refine ⟨by simp only [szs, List.length_cons, List.length_nil]; omega, by simp, fun p hp => ?_⟩
    simp only [List.mem_cons, List.not_mem_nil, or_false] at hp
    rcases hp with rfl | rfl | rfl <;> exact ptAt_short hS _
  have none_ : (([] : List PV).length : Int) + szs [] ≤ 16777216 ∧ ([] : List PV).length ≤ 1048576 ∧ ∀ p, p ∈ ([] : List PV) → ShortP p := ⟨by simp [szs], by simp, fun p hp => by cases hp⟩
  unfold corV
  cases (if 0 ≤ k then T[k.toNat]? else none) with
  | none => exact none_
  | some t =>
    by_cases ho : okT L.length t = true
    · simp only [ho, if_true]; exact key t
    · simp only [ho]; exact none_
set_option maxHeartbeats 4000000 in
theorem law_corners (m : MV) (x0 : Int) (w : World) (hL : LenM m) (hA : Rds w (srow m.A m.L)) (hB : RdS w m.B (flatT m.T)) (hx0 : (Lit.int .i64 x0).wf = true) :
    Calls Try.prog 3 #[.agg #[.slice m.A m.L.length m.c, .slice m.B m.T.length m.d], .int .i64 x0] w fun e w' => e = .returned (.bool true) ∧ Below w.heap.size w w' := by
  have hz1 := szm_pos m
  obtain ⟨l1, hl1⟩ : ∃ l : Int, l = 1048576 - szm m := ⟨_, rfl⟩
  by_cases hg : szm m ≤ 1048576
  case neg =>
    have SZ := Lib.hid (fun W (hb : Below w.heap.size w W) => szMesh_n m 1048576 W hL (by omega) (by omega) hg (hA.hd.below hb))
    clear hg hl1 hA hB hL hz1
    go_enter Try.func3, Try.ntmps3
    go_wp2_with fail
    have kb := ba1 w (.cells #[.slice m.A m.L.length m.c, .slice m.B m.T.length m.d] 25)
    have P_a := heap_alloc_new w (.cells #[.slice m.A m.L.length m.c, .slice m.B m.T.length m.d] 25)
    generalize w.alloc (.cells #[.slice m.A m.L.length m.c, .slice m.B m.T.length m.d] 25) = W1 at kb P_a ⊢
    have hzW1 := kb.size
    refine (SZ.out _ kb).mono ?_
    rintro e W2 ⟨rfl, hb⟩
    have hzW2 : W1.heap.size ≤ W2.heap.size := hb.size
    replace P_a := rblk_below P_a hb
    replace kb := bt kb hb
    clear hb
    go_wp2
    go_ret
    exact ⟨rfl, kb⟩
  have SZ := Lib.hid (fun W (hb : Below w.heap.size w W) => szMesh_y m 1048576 W (by omega) (by omega) hg (hA.hd.below hb))
  rw [← hl1] at SZ
  have hs1 : ¬ l1 < 0 := by omega
  have hm := szm_short hg (Int.le_refl _)
  have T := Lib.hid (fun W (hb : Below w.heap.size w W) => toMesh_r m W hm (hA.below hb) (hB.below hb))
  have E := Lib.hid (fun (N K : MV) W hd hd' h1 h2 h3 h4 => eqMesh_t m N K W hm hd hd' h1 h2 h3 h4)
  obtain ⟨gg, gn, gS⟩ := corV_facts hm.2.2 m.T x0
  have HS : Hid (∀ (M : MV) (W : World), datM M = datM m → Rds W (srow M.A M.L) → Rds W [(M.B, flatT M.T)] → Calls Try.prog 6 #[.agg #[.slice M.A M.L.length M.c, .slice M.B M.T.length M.d], .int .i64 x0] W (MadePS W.heap.size (corV m.L m.T x0) W)) := Lib.hid (fun M W hd h1 h2 => (spec_corners M x0 W (datM_short hd hm) h1 h2).mono (fun e w' ⟨N, A, c, r1, r2, r3, r4⟩ => ⟨N, A, c, r1, r2, by rw [r3, (datM_len hd).2, corV_dat (datM_dat hd)], r4⟩))
  have HI : Hid (∀ (M : MV) (W : World), datM M = datM m → Rds W (srow M.A M.L) → Rds W [(M.B, flatT M.T)] → Calls Try.prog 8 #[.agg #[.slice M.A M.L.length M.c, .slice M.B M.T.length M.d], .int .i64 x0] W (MadePS W.heap.size (corV m.L m.T x0) W)) := Lib.hid (fun M W hd h1 h2 => (impl_corners M x0 W (datM_short hd hm) h1 h2).mono (fun e w' ⟨N, A, c, r1, r2, r3, r4⟩ => ⟨N, A, c, r1, r2, by rw [r3, (datM_len hd).2, corV_dat (datM_dat hd)], r4⟩))
  have hpos : ¬ nxs 1 m.L + 5 * (m.T.length : Int) < 0 := by have := szs_pos m.L; rw [nxs_eq]; omega
  have MK : Hid (∀ (M : MV) (lo mid hi : Nat) (W : World), datM M = datM m → lo ≤ mid → mid ≤ hi → hi ≤ W.heap.size → Owns lo mid W (srow M.A M.L) → Aparts (srow M.A M.L) → Owns mid hi W [(M.B, flatT M.T)] → Calls Try.prog 11 #[.agg #[.slice M.A M.L.length M.c, .slice M.B M.T.length M.d], .int .i64 1] W (fun e w' => e = .returned (.int .i64 (nxs 1 m.L + 5 * (m.T.length : Int))) ∧ Turn lo hi W w')) := Lib.hid (fun M lo mid hi W hd h1 h2 hh oA ap oB => by
    have e1 := szs_dat (datM_dat hd)
    have e2 := (datM_len hd).1
    have e3 := nxs_dat 1 (datM_dat hd)
    have e4 := (datM_len hd).2
    have sz : szm m = (m.L.length : Int) + szs m.L + (m.T.length : Int) := rfl
    have K := markMesh_r lo mid hi M W (by rw [e1, e2]; omega) (by rw [e4]; exact hm.2.1) h1 h2 hh oA ap oB
    rw [e3] at K
    rw [show (M.T.length : Int) = (m.T.length : Int) by rw [e4]] at K
    exact K)
  generalize nxs 1 m.L + 5 * (m.T.length : Int) = KM0 at MK hpos
  generalize corV m.L m.T x0 = GL at HS HI gg gn gS
  have GE := Lib.hid (fun M M' A A' c c' W hd hd' h h' => eqPS_t GL M M' A A' c c' W gn gS hd hd' h h')
  have HM : Hid (∀ (M : List PV) (B : Option Addr) (k : Nat) (lo hi : Nat) (W : World), dat M = dat GL → hi ≤ W.heap.size → Owns lo hi W (srow B M) → Aparts (srow B M) → Calls Try.prog 12 #[.slice B M.length k, .int .i64 1] W (fun e w' => e = .returned (.int .i64 (nxs 1 GL)) ∧ Owns lo hi w' (srow B (mks 1 M)) ∧ Turn lo hi W w')) := Lib.hid (fun M B k lo hi W hd hh ow ap => (markPS_w lo hi M B k 1 W (by omega) (by omega) (dat_shortM hd gS) (by rw [dat_len hd, szs_dat hd]; exact gg) hh ow ap).mono (fun e w' hm => ⟨by rw [hm.1, nxs_dat 1 hd], hm.2.1, hm.2.2⟩))
  have HH : Hid (∀ (M : List PV) (B : Option Addr) (k : Nat) (W : World), dat M = dat GL → Rds W (srow B (mks 1 M)) → Calls Try.prog 13 #[.slice B M.length k, .int .i64 1] W (fun e w' => e = .returned (.int .i64 (nxs 1 GL)) ∧ Below W.heap.size W w')) := Lib.hid (fun M B k W hd h => (heldPS_w M B k 1 W (by omega) (by omega) (dat_shortM hd gS) (by rw [dat_len hd, szs_dat hd]; exact gg) h).mono (fun e w' hm => ⟨by rw [hm.1, nxs_dat 1 hd], hm.2⟩))
  have hl1' : ¬ nxs 1 GL < 0 := by have := szs_pos GL; rw [nxs_eq]; omega
  generalize nxs 1 GL = KM at HM HH hl1'
  have q3 : (KM != KM) = false := by simp
  clear gg gn gS hg hl1 hA hB hL hz1 hm hx0
  unfold MadeM at T
  unfold MadePS at HS HI
  go_enter Try.func3, Try.ntmps3
  go_wp2_with fail
  have kb := ba1 w (.cells #[.slice m.A m.L.length m.c, .slice m.B m.T.length m.d] 25)
  have P_a := heap_alloc_new w (.cells #[.slice m.A m.L.length m.c, .slice m.B m.T.length m.d] 25)
  generalize w.alloc (.cells #[.slice m.A m.L.length m.c, .slice m.B m.T.length m.d] 25) = W1 at kb P_a ⊢
  have hzW1 := rblk_lt P_a
  refine (SZ.out _ kb).mono ?_
  rintro e W2 ⟨rfl, hb⟩
  have hzW2 : W1.heap.size ≤ W2.heap.size := hb.size
  replace P_a := rblk_below P_a hb
  replace kb := bt kb hb
  clear hb
  have c_a0 : W2.cell? ⟨w.heap.size, 0, none⟩ = some (.slice m.A m.L.length m.c) := rblk_cell P_a 0
  have c_a1 : W2.cell? ⟨w.heap.size, 1, none⟩ = some (.slice m.B m.T.length m.d) := rblk_cell P_a 1
  go_wp2_with fail
  clear c_a0 c_a1
  refine (T.out _ kb).mono ?_
  rintro e W3 ⟨U, jU, rfl, hdU, hcU, hjU, oU, tU, apU, hb⟩
  have hzW3 : W2.heap.size ≤ W3.heap.size := hb.size
  replace P_a := rblk_below P_a hb
  replace kb := bt kb hb
  clear hb
  go_wp2_with fail
  refine (HS.out U _ hdU oU.rds tU.rds).mono ?_
  rintro e W4 ⟨Mu, Au, cu, rfl, hku, hdu, hcu, ou, hapu, hb⟩
  have hzW4 : W3.heap.size ≤ W4.heap.size := hb.size
  replace P_a := rblk_below P_a hb
  replace oU := oU.below hb
  replace tU := tU.below hb
  replace kb := bt kb hb
  clear hb
  clear oU tU
  have c_a0 : W4.cell? ⟨w.heap.size, 0, none⟩ = some (.slice m.A m.L.length m.c) := rblk_cell P_a 0
  have c_a1 : W4.cell? ⟨w.heap.size, 1, none⟩ = some (.slice m.B m.T.length m.d) := rblk_cell P_a 1
  go_wp2_with fail
  clear c_a0 c_a1
  refine (T.out _ kb).mono ?_
  rintro e W5 ⟨M, jM, rfl, hdM, hcM, hjM, oM, tM, apM, hb⟩
  have hzW5 : W4.heap.size ≤ W5.heap.size := hb.size
  replace P_a := rblk_below P_a hb
  replace ou := ou.below hb
  replace kb := bt kb hb
  clear hb
  have HJM := Lib.hid hjM
  have hj1 := hjM.1
  have hj2 := hjM.2
  have P_x := heap_alloc_new W5 (.cells #[.slice M.A M.L.length M.c, .slice M.B M.T.length M.d] 31)
  have hb := ba1 W5 (.cells #[.slice M.A M.L.length M.c, .slice M.B M.T.length M.d] 31)
  replace P_a := rblk_below P_a hb
  replace ou := ou.below hb
  replace oM := oM.below hb
  replace tM := tM.below hb
  replace kb := bt kb hb
  clear hb
  have hzW6 : W5.heap.size < (W5.alloc (.cells #[.slice M.A M.L.length M.c, .slice M.B M.T.length M.d] 31)).heap.size := by rw [sz1]; omega
  go_wp2_with fail
  generalize W5.alloc (.cells #[.slice M.A M.L.length M.c, .slice M.B M.T.length M.d] 31) = W6 at kb hzW6 P_a P_x ou oM tM ⊢
  refine (HI.out M _ hdM oM.rds tM.rds).mono ?_
  rintro e W7 ⟨Mg, Ag, cg, rfl, hkg, hdg, hcg, og, hapg, hb⟩
  have hzW7 : W6.heap.size ≤ W7.heap.size := hb.size
  replace P_a := rblk_below P_a hb
  replace P_x := rblk_below P_x hb
  replace ou := ou.below hb
  replace oM := oM.below hb
  replace tM := tM.below hb
  replace kb := bt kb hb
  clear hb
  go_wp2_with fail
  refine (GE.out Mg Mu Ag Au cg cu _ hdg hdu og.rds ou.rds).mono ?_
  rintro e W8 ⟨rfl, hb⟩
  have hzW8 : W7.heap.size ≤ W8.heap.size := hb.size
  replace P_a := rblk_below P_a hb
  replace P_x := rblk_below P_x hb
  replace ou := ou.below hb
  replace oM := oM.below hb
  replace tM := tM.below hb
  replace og := og.below hb
  replace kb := bt kb hb
  clear hb
  go_wp2_with fail
  have SB : Hid (∀ w', Below W8.heap.size W8 w' → (w'.cell? ⟨W5.heap.size, 0, none⟩ = some (.slice M.A M.L.length M.c) ∧ w'.cell? ⟨W5.heap.size, 1, none⟩ = some (.slice M.B M.T.length M.d) ∧ w'.cell? ⟨w.heap.size, 0, none⟩ = some (.slice m.A m.L.length m.c) ∧ w'.cell? ⟨w.heap.size, 1, none⟩ = some (.slice m.B m.T.length m.d) ∧ Below W8.heap.size W8 w')) := Lib.hid (fun w' hB => ⟨rblk_cell (rblk_below P_x hB) 0, rblk_cell (rblk_below P_x hB) 1, rblk_cell (rblk_below P_a hB) 0, rblk_cell (rblk_below P_a hB) 1, hB⟩)
  have kr := kb
  go_region_held3 (fun w' => w'.cell? ⟨W5.heap.size, 0, none⟩ = some (.slice M.A M.L.length M.c) ∧ w'.cell? ⟨W5.heap.size, 1, none⟩ = some (.slice M.B M.T.length M.d) ∧ w'.cell? ⟨w.heap.size, 0, none⟩ = some (.slice m.A m.L.length m.c) ∧ w'.cell? ⟨w.heap.size, 1, none⟩ = some (.slice m.B m.T.length m.d) ∧ Below W8.heap.size W8 w')
    (first | (with_reducible exact SB.out _ (Below.refl _ _).drew) | (with_reducible exact SB.out _ (Below.refl _ _)) | (go_split_ands; with_reducible exact SB.out _ (bt (by assumption : Below W8.heap.size W8 _) hb)))
    (first | (go_at_call 7; go_split_ands; ((with_reducible refine (T.out _ (bt kr (by assumption : Below W8.heap.size W8 _))).mono ?_); rintro e Wa9 ⟨Q9, jq9, rfl, hdq9, hcq9, hjq9, oq9, tq9, apq9, hb⟩)) | (go_at_call 10; go_split_ands; ((with_reducible refine (E.out M Q9 _ hdM hdq9 (oM.below (by assumption : Below W8.heap.size W8 _)).rds (tM.below (by assumption : Below W8.heap.size W8 _)).rds (by first | with_reducible exact oq9.rds | with_reducible exact (Owns.drew oq9).rds | with_reducible exact (oq9.below (ba1 _ _)).rds | with_reducible exact (Owns.drew (oq9.below (ba1 _ _))).rds) (by first | with_reducible exact tq9.rds | with_reducible exact (Owns.drew tq9).rds | with_reducible exact (tq9.below (ba1 _ _)).rds | with_reducible exact (Owns.drew (tq9.below (ba1 _ _))).rds)).mono ?_); rintro e W9 ⟨rfl, hb⟩; have KB := bt (by assumption : Below W8.heap.size W8 _) hb)))
  replace P_a := rblk_below P_a KB
  replace P_x := rblk_below P_x KB
  replace ou := ou.below KB
  replace oM := oM.below KB
  replace tM := tM.below KB
  replace og := og.below KB
  replace kb := bt kr KB
  have hzW9 : W8.heap.size ≤ W9.heap.size := KB.size
  clear KB kr SB oq9 tq9
  try clear ‹_ ∧ _›
  have c_x0 : W9.cell? ⟨W5.heap.size, 0, none⟩ = some (.slice M.A M.L.length M.c) := rblk_cell P_x 0
  have c_x1 : W9.cell? ⟨W5.heap.size, 1, none⟩ = some (.slice M.B M.T.length M.d) := rblk_cell P_x 1
  go_wp2_with fail
  clear c_x0 c_x1
  refine (MK.out M _ _ _ _ hdM HJM.out.1 HJM.out.2 (by omega) oM apM tM).mono ?_
  rintro e W10 ⟨rfl, hT⟩
  replace P_a := hT.blk P_a (by omega)
  replace P_x := hT.blk P_x (by omega)
  replace kb := hT.below kb (by omega) (by omega)
  replace ou := ou.turn hT (by omega)
  replace og := og.turn hT (by omega)
  have hzW10 : W9.heap.size ≤ W10.heap.size := hT.size
  clear hT oM tM
  go_wp2_with fail
  refine (GE.out Mg Mu Ag Au cg cu _ hdg hdu og.rds ou.rds).mono ?_
  rintro e W11 ⟨rfl, hb⟩
  have hzW11 : W10.heap.size ≤ W11.heap.size := hb.size
  replace P_a := rblk_below P_a hb
  replace P_x := rblk_below P_x hb
  replace ou := ou.below hb
  replace og := og.below hb
  replace kb := bt kb hb
  clear hb
  go_wp2_with fail
  refine (HM.out Mg Ag cg _ _ _ hdg (by omega) og hapg).mono ?_
  rintro e W12 ⟨rfl, ogq, hT⟩
  replace P_a := hT.blk P_a (by omega)
  replace P_x := hT.blk P_x (by omega)
  replace kb := hT.below kb (by omega) (by omega)
  replace ou := ou.turn hT (by omega)
  have hzW12 : W11.heap.size ≤ W12.heap.size := hT.size
  clear hT
  clear og
  have og := ogq
  clear ogq
  go_wp2_with fail
  refine (HH.out Mg Ag cg _ hdg og.rds).mono ?_
  rintro e W13 ⟨rfl, hb⟩
  have hzW13 : W12.heap.size ≤ W13.heap.size := hb.size
  replace P_a := rblk_below P_a hb
  replace P_x := rblk_below P_x hb
  replace ou := ou.below hb
  replace og := og.below hb
  replace kb := bt kb hb
  clear hb
  have c_a0 : W13.cell? ⟨w.heap.size, 0, none⟩ = some (.slice m.A m.L.length m.c) := rblk_cell P_a 0
  have c_a1 : W13.cell? ⟨w.heap.size, 1, none⟩ = some (.slice m.B m.T.length m.d) := rblk_cell P_a 1
  go_wp2_with fail
  clear c_a0 c_a1
  refine (T.out _ kb).mono ?_
  rintro e W14 ⟨V, jV, rfl, hdV, hcV, hjV, oV, tV, apV, hb⟩
  have hzW14 : W13.heap.size ≤ W14.heap.size := hb.size
  replace P_a := rblk_below P_a hb
  replace P_x := rblk_below P_x hb
  replace ou := ou.below hb
  replace og := og.below hb
  replace kb := bt kb hb
  clear hb
  go_wp2_with fail
  refine (HI.out V _ hdV oV.rds tV.rds).mono ?_
  rintro e W15 ⟨Mh, Ah, ch, rfl, hkh, hdh, hch, oh, haph, hb⟩
  have hzW15 : W14.heap.size ≤ W15.heap.size := hb.size
  replace P_a := rblk_below P_a hb
  replace P_x := rblk_below P_x hb
  replace ou := ou.below hb
  replace og := og.below hb
  replace oV := oV.below hb
  replace tV := tV.below hb
  replace kb := bt kb hb
  clear hb
  clear oV tV
  go_wp2_with fail
  refine (GE.out Mh Mu Ah Au ch cu _ hdh hdu oh.rds ou.rds).mono ?_
  rintro e W16 ⟨rfl, hb⟩
  have hzW16 : W15.heap.size ≤ W16.heap.size := hb.size
  replace P_a := rblk_below P_a hb
  replace P_x := rblk_below P_x hb
  replace ou := ou.below hb
  replace og := og.below hb
  replace oh := oh.below hb
  replace kb := bt kb hb
  clear hb
  go_wp2_with fail
  refine (HH.out Mg Ag cg _ hdg og.rds).mono ?_
  rintro e W17 ⟨rfl, hb⟩
  have hzW17 : W16.heap.size ≤ W17.heap.size := hb.size
  replace P_a := rblk_below P_a hb
  replace P_x := rblk_below P_x hb
  replace ou := ou.below hb
  replace og := og.below hb
  replace oh := oh.below hb
  replace kb := bt kb hb
  clear hb
  go_wp2
  go_ret
  exact ⟨rfl, kb⟩
end Go.Proofs.Ytenjjojbjpmhbaa
