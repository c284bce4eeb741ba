/-
  The model's l13Same.
-/
import Derived.Test.YtennekieiioilaaRl
import Derived.Test.YtennekieiioilaaRlE
import Derived.Test.YtennekieiioilaaPtH
import Derived.Test.YtennekieiioilaaPkI
import Derived.Test.YtennekieiioilaaTk
namespace Go.Proofs.Ytennekieiioilaa
open Go.ChangeShapes Go.WideShapes Go.ChangeAt Go.RowKit
open Go.ChangeMaps (open_string shut_string)
set_option linter.unusedVariables false
set_option linter.unusedSimpArgs false
set_option maxRecDepth 4000

/-- Two lists of fractions, element for element. -/
def sameQ (L M : List RV) (i : Nat) : Bool := sameR (((datQ L)[i]?).getD noR) (((datQ M)[i]?).getD noR)
def sameQL (L M : List RV) : Bool := decide (L.length = M.length) && (List.range L.length).all (sameQ L M)
theorem sameQL_dat {L M L' M' : List RV} (h : datQ L' = datQ L) (h' : datQ M' = datQ M) : sameQL L' M' = sameQL L M := by
  have e : sameQ L' M' = sameQ L M := by funext i; unfold sameQ; rw [h, h']
  unfold sameQL
  rw [datQ_len h, datQ_len h', e]
theorem rangeQ_succ (f : Nat → Bool) (j : Nat) (h : (List.range j).all f = true) : (List.range (j + 1)).all f = f j := by
  rw [List.range_succ, List.all_append, h]; simp
theorem rangeQ_no {f : Nat → Bool} {j n : Nat} (hj : j < n) (h : f j = false) : (List.range n).all f = false := by
  cases hx : (List.range n).all f with
  | false => rfl
  | true => rw [List.all_eq_true.1 hx j (List.mem_range.2 hj)] at h; cases h
attribute [local go_sem ↓] Go.wp_at_zero Go.wp_at_succ
set_option maxHeartbeats 4000000 in
theorem spec_sameQ (L M : List RV) (A D : Option Addr) (c d : Nat) (w : World) (hn : L.length ≤ 9223372036854775807) (hL : ∀ p, p ∈ L → ShortQ p) (hA : RdS w A (flatQ L)) (hR : Rds w (lrowQ L)) (hn' : M.length ≤ 9223372036854775807) (hL' : ∀ p, p ∈ M → ShortQ p) (hA' : RdS w D (flatQ M)) (hR' : Rds w (lrowQ M)) :
    Calls Try.prog 21 #[.slice A L.length c, .slice D M.length d] w (fun e w' => e = .returned (.bool (sameQL L M)) ∧ Below w.heap.size w w') := by
  obtain ⟨r, hr⟩ : ∃ r, r = sameQL L M := ⟨_, rfl⟩
  rw [← hr]
  unfold sameQL at hr
  by_cases hne : L.length = M.length
  case neg =>
    rw [decide_eq_false hne, Bool.false_and] at hr
    subst hr
    have q : ((L.length : Int) != (M.length : Int)) = true := by rw [bne_iff_ne]; omega
    clear hA hR hL hA' hR' hL' hne
    generalize L.length = n at *
    generalize M.length = m at *
    go_enter Try.func21, Try.ntmps21
    go_wp2
    go_ret
    exact ⟨rfl, Below.refl _ _⟩
  rw [decide_eq_true hne, Bool.true_and] at hr
  have q : ((L.length : Int) != (M.length : Int)) = false := by rw [hne]; simp
  have RX : Hid (∀ W, Below w.heap.size w W → (RdS W A (flatQ L) ∧ Rds W (lrowQ L)) ∧ RdS W D (flatQ M) ∧ Rds W (lrowQ M)) := Lib.hid (fun W hb => ⟨⟨hA.below hb, hR.below hb⟩, hA'.below hb, hR'.below hb⟩)
  have HL := Lib.hid (And.intro hL hL')
  have HRR := Lib.hid hr
  obtain ⟨n, hnn⟩ : ∃ n, n = L.length := ⟨_, rfl⟩
  rw [← hnn] at HRR
  have HN := Lib.hid (And.intro hnn (hnn.trans hne))
  rw [← hne] at q ⊢
  rw [← hnn] at hn q ⊢
  clear hA hR hL hA' hR' hL' hne hnn hr hn'
  go_enter Try.func21, Try.ntmps21
  go_wp2_with fail
  go_loopw [14] (fun k w' => ∃ j : Nat, j ≤ n ∧ k = .int .i64 (j : Int) ∧ (List.range j).all (sameQ L M) = true ∧ Below w.heap.size w w') (fun k _ => n - (intOf k).toNat)
  case atStart => exact ⟨0, Nat.zero_le _, rfl, rfl, Below.refl _ _⟩
  case round =>
    obtain ⟨j, hj, rfl, hel, kw⟩ := hrel
    by_cases hlj : j < n
    · obtain ⟨p, hp⟩ := getQ (L := L) (i := j) (by rw [← HN.out.1]; exact hlj)
      obtain ⟨u, hu⟩ := getQ (L := M) (i := j) (by rw [← HN.out.2]; exact hlj)
      have HPR := Lib.hid (fun W (hB : Below wr.heap.size wr W) => And.intro ((RX.out _ (bt kw hB)).1.2.atQ hp) ((RX.out _ (bt kw hB)).2.2.atQ hu))
      obtain ⟨g, o, rfl, _, c0, c1, c2⟩ := (RX.out _ kw).1.1.three hp
      obtain ⟨gu, ou, rfl, _, _, _, _⟩ := (RX.out _ kw).2.1.three hu
      have HCC := Lib.hid (fun W (hB : Below wr.heap.size wr W) => (RX.out _ (bt kw hB)).2.1.three hu)
      have lp := HL.out.1 p (List.mem_of_getElem? hp)
      have lu := HL.out.2 u (List.mem_of_getElem? hu)
      unfold ShortQ Short at lp lu
      have hse : sameQ L M j = sameR p.x u.x := by
        unfold sameQ
        rw [show (datQ L)[j]? = some p.x by unfold datQ; rw [List.getElem?_map, hp]; rfl, show (datQ M)[j]? = some u.x by unfold datQ; rw [List.getElem?_map, hu]; rfl]
        rfl
      have HEQ := Lib.hid (fun W (h1 : Rds W (rows p.x p.a)) (h2 : Rds W (rows u.x u.a)) => show Calls Try.prog 31 #[.agg #[.bool p.x.p, .slice p.a.A p.x.l.length p.a.c, .slice p.a.D p.x.m.length p.a.d], .agg #[.bool u.x.p, .slice u.a.A u.x.l.length u.a.c, .slice u.a.D u.x.m.length u.a.d]] W (fun e w' => e = .returned (.bool (sameR p.x u.x)) ∧ Below W.heap.size W w') from spec_req p.x.p u.x.p p.x.l p.x.m u.x.l u.x.m p.a.A p.a.D u.a.A u.a.D p.x.l.length p.x.m.length u.x.l.length u.x.m.length p.a.c p.a.d u.a.c u.a.d W rfl rfl rfl rfl (by omega) (by omega) (by omega) (by omega) (rows_rd h1).1 (rows_rd h1).2 (rows_rd h2).1 (rows_rd h2).2)
      have HTJ := Lib.hid (rangeQ_succ _ _ hel)
      have HFJ : Hid (sameQ L M j = false → r = false) := Lib.hid (fun h => by rw [HRR.out]; exact rangeQ_no hlj h)
      rw [hse] at HTJ HFJ
      generalize sameR p.x u.x = b at HEQ HTJ HFJ
      have hj0 : (0 : Int) ≤ (j : Int) := by omega
      have hj1 : (j : Int) < (n : Int) := by omega
      have P_e := heap_alloc_new wr (.cells #[.bool p.x.p, .slice p.a.A p.x.l.length p.a.c, .slice p.a.D p.x.m.length p.a.d] 45)
      have hb := ba1 wr (.cells #[.bool p.x.p, .slice p.a.A p.x.l.length p.a.c, .slice p.a.D p.x.m.length p.a.d] 45)
      have HE : Hid (∀ W, Below (wr.alloc (.cells #[.bool p.x.p, .slice p.a.A p.x.l.length p.a.c, .slice p.a.D p.x.m.length p.a.d] 45)).heap.size (wr.alloc (.cells #[.bool p.x.p, .slice p.a.A p.x.l.length p.a.c, .slice p.a.D p.x.m.length p.a.d] 45)) W → (W.heap[wr.heap.size]? = some (.cells #[.bool p.x.p, .slice p.a.A p.x.l.length p.a.c, .slice p.a.D p.x.m.length p.a.d] 45 (0, 0))) ∧ Below wr.heap.size wr W ∧ Below w.heap.size w W) := Lib.hid (fun W hB => ⟨rblk_below P_e hB, bt hb hB, bt kw (bt hb hB)⟩)
      clear hp hu hse lp lu hel P_e hb kw
      go_wp2_with fail
      clear c0 c1 c2
      generalize wr.alloc (.cells #[.bool p.x.p, .slice p.a.A p.x.l.length p.a.c, .slice p.a.D p.x.m.length p.a.d] 45) = Wb at HE ⊢
      refine wp_region_held_drew (S := fun w' => Below Wb.heap.size Wb w') (by kernel_rfl) ((Below.refl _ _).drew) (fun hHeld => ?_)
      refine tk (i := 0) (v := ?vg1_1) rfl (by kernel_rfl) (fun _ _ _ h => h) (Or.inl ⟨by rfl, ?hg1_1⟩) hHeld ?_
      case hg1_1 => (intro w hSw; (try dsimp only at hSw); have P_z := (HE.out _ hSw).1; have z0 := rblk_cell P_z 0; have z1 := rblk_cell P_z 1; have z2 := rblk_cell P_z 2; clear hSw P_z; go_simp; (try with_reducible rfl))
      try simp only [ps]
      refine tk (i := 1) (v := ?vg1_2) rfl (by kernel_rfl) (fun _ _ _ h => h) (Or.inl ⟨by rfl, ?hg1_2⟩) hHeld ?_
      case hg1_2 => (intro w hSw; (try dsimp only at hSw); clear hSw; go_simp; (try with_reducible rfl))
      try simp only [ps]
      refine tk (i := 2) (v := ?vg1_3) rfl (by kernel_rfl) (fun _ _ _ h => h) (Or.inl ⟨by rfl, ?hg1_3⟩) hHeld ?_
      case hg1_3 => (intro w hSw; (try dsimp only at hSw); clear hSw; go_simp; (try with_reducible rfl))
      try simp only [ps]
      refine tk (i := 3) (v := ?vg1_4) rfl (by kernel_rfl) (fun _ _ _ h => h) (Or.inl ⟨by rfl, ?hg1_4⟩) hHeld ?_
      case hg1_4 => (intro w hSw; (try dsimp only at hSw); clear hSw; go_simp; (try with_reducible rfl))
      try simp only [ps]
      refine tk (i := 4) (v := ?vg1_5) rfl (by kernel_rfl) (fun _ _ _ h => h) (Or.inl ⟨by rfl, ?hg1_5⟩) hHeld ?_
      case hg1_5 => (intro w hSw; (try dsimp only at hSw); obtain ⟨_, _, he, _, z0, z1, z2⟩ := HCC.out _ (HE.out _ hSw).2.1; cases he; clear hSw; go_simp; (try with_reducible rfl))
      try simp only [ps]
      refine rd1 (i := 5) (by kernel_rfl) rfl (fun K hK => ?_)
      go_simp
      (go_at_call 31; ((with_reducible refine (HEQ.out _ (HPR.out _ (HE.out _ hHeld).2.1).1 (HPR.out _ (HE.out _ hHeld).2.1).2).mono ?_); rintro e Wr1_6 ⟨rfl, hb⟩))
      refine hK.out _ _ (bt hHeld hb) (fun hH => ?_)
      replace hHeld := hH
      clear hK K hH
      clear hb
      try simp only [ps]
      refine tk (i := 6) (v := ?vg1_7) rfl (by kernel_rfl) (fun _ _ _ h => h) (Or.inl ⟨by rfl, ?hg1_7⟩) hHeld ?_
      case hg1_7 => (intro w hSw; (try dsimp only at hSw); clear hSw; go_simp; (try with_reducible rfl))
      try simp only [ps]
      refine wpAnyH_done (by kernel_rfl) ?_ _
      have kz := (HE.out _ hHeld).2.2
      clear hHeld
      cases b
      · have hrf := HFJ.out rfl
        subst hrf
        clear HTJ HFJ
        go_wp2
        go_ret
        exact ⟨rfl, kz⟩
      · have HKZ := Lib.hid kz
        clear kz HFJ
        go_wp2
        go_roundw
        case rel => exact ⟨j + 1, hlj, by go_num, HTJ.out, HKZ.out⟩
        case measure => simp [intOf]; omega
    · obtain rfl : j = n := by omega
      have hrt : r = true := HRR.out.trans hel
      subst hrt
      clear hel
      go_wp2
      go_ret
      exact ⟨rfl, kw⟩
end Go.Proofs.Ytennekieiioilaa
