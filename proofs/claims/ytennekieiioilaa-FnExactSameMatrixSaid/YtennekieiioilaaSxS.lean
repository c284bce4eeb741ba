/-
  The model's SameMatrix.
-/
import Derived.Test.YtennekieiioilaaSqS1
import Derived.Test.YtennekieiioilaaMx
import Derived.Test.YtennekieiioilaaIsMW
namespace Go.Proofs.Ytennekieiioilaa
open Go.ChangeShapes Go.WideShapes Go.ChangeAt Go.RowKit
open Go.ChangeMaps (open_string shut_string)
set_option linter.unusedVariables false
set_option linter.unusedSimpArgs false
set_option maxRecDepth 4000

/-- Two matrices, element for element. -/
def colS (p q : MR) (k : Nat) : Bool := (p.cs[k]?).getD 0 == (q.cs[k]?).getD 0
def rowE (p q : MR) : Bool := sameQL p.V q.V && (decide (p.cs.length = q.cs.length) && (List.range p.cs.length).all (colS p q))
def rowS (L M : List MR) (i : Nat) : Bool := match L[i]?, M[i]? with | some p, some q => rowE p q | _, _ => true
def sameX (L M : List MR) : Bool := decide (L.length = M.length) && (List.range L.length).all (rowS L M)
theorem sameX_dat {L M L' M' : List MR} (h : datX L' = datX L) (h' : datX M' = datX M) : sameX L' M' = sameX L M := by
  have k : rowS L' M' = rowS L M := by
    funext i
    unfold rowS
    cases hp : L[i]? with
    | none =>
      have : L'[i]? = none := by rw [List.getElem?_eq_none_iff] at hp ⊢; rw [datX_len h]; exact hp
      rw [this]
    | some p =>
      obtain ⟨p', hp', e1, e2⟩ := datX_get h hp
      rw [hp']
      cases hq : M[i]? with
      | none =>
        have : M'[i]? = none := by rw [List.getElem?_eq_none_iff] at hq ⊢; rw [datX_len h']; exact hq
        rw [this]
      | some q =>
        obtain ⟨q', hq', e3, e4⟩ := datX_get h' hq
        rw [hq']
        show rowE p' q' = rowE p q
        have e : colS p' q' = colS p q := by funext k; unfold colS; rw [e1, e3]
        unfold rowE
        rw [sameQL_dat e2 e4, e1, e3, e]
  unfold sameX
  rw [datX_len h, datX_len h', k]
attribute [local go_sem ↓] Go.wp_at_zero Go.wp_at_succ
set_option maxHeartbeats 4000000 in
theorem spec_sameX (L M : List MR) (A D : Option Addr) (c d : Nat) (w : World) (hn : L.length ≤ 9223372036854775807) (hL : ∀ p, p ∈ L → ShortX p) (hA : RdS w A (flatX L)) (hR : Rds w (lrowX L)) (hn' : M.length ≤ 9223372036854775807) (hL' : ∀ p, p ∈ M → ShortX p) (hA' : RdS w D (flatX M)) (hR' : Rds w (lrowX M)) :
    Calls Try.prog 10 #[.agg #[.slice A L.length c], .agg #[.slice D M.length d]] w (fun e w' => e = .returned (.bool (sameX L M)) ∧ Below w.heap.size w w') := by
  obtain ⟨r, hr⟩ : ∃ r, r = sameX L M := ⟨_, rfl⟩
  rw [← hr]
  unfold sameX at hr
  by_cases hne : L.length = M.length
  case neg =>
    rw [decide_eq_false hne, Bool.false_and] at hr
    subst hr
    have q : ((L.length : Int) != (M.length : Int)) = true := by rw [bne_iff_ne]; omega
    clear hA hR hL hA' hR' hL' hne
    generalize L.length = n at *
    generalize M.length = m at *
    obtain ⟨P_a, P_b⟩ := blocks2 w (.cells #[.slice A n c] 29) (.cells #[.slice D m d] 29)
    have kb := ba2 w (.cells #[.slice A n c] 29) (.cells #[.slice D m d] 29)
    have a0 := rblk_cell P_a 0
    have b0 := rblk_cell P_b 0
    go_enter Try.func10, Try.ntmps10
    go_wp2
    go_ret
    exact ⟨rfl, kb⟩
  rw [decide_eq_true hne, Bool.true_and] at hr
  have q : ((L.length : Int) != (M.length : Int)) = false := by rw [hne]; simp
  have RX : Hid (∀ W, Below w.heap.size w W → (RdS W A (flatX L) ∧ Rds W (lrowX L)) ∧ RdS W D (flatX M) ∧ Rds W (lrowX M)) := Lib.hid (fun W hb => ⟨⟨hA.below hb, hR.below hb⟩, hA'.below hb, hR'.below hb⟩)
  have HL := Lib.hid (And.intro hL hL')
  have HRR := Lib.hid hr
  obtain ⟨n, hnn⟩ : ∃ n, n = L.length := ⟨_, rfl⟩
  rw [← hnn] at HRR
  have HN := Lib.hid (And.intro hnn (hnn.trans hne))
  rw [← hne] at q ⊢
  rw [← hnn] at hn q ⊢
  clear hA hR hL hA' hR' hL' hne hnn hr hn'
  obtain ⟨P_a, P_b⟩ := blocks2 w (.cells #[.slice A n c] 29) (.cells #[.slice D n d] 29)
  have kb := ba2 w (.cells #[.slice A n c] 29) (.cells #[.slice D n d] 29)
  have a0 := rblk_cell P_a 0
  have b0 := rblk_cell P_b 0
  go_enter Try.func10, Try.ntmps10
  go_wp2_with fail
  clear a0 b0
  generalize (w.alloc (.cells #[.slice A n c] 29)).alloc (.cells #[.slice D n d] 29) = W1 at P_b kb ⊢
  clear P_a
  go_loopw [19] (fun k w' => ∃ i : Nat, i ≤ n ∧ k = .int .i64 (i : Int) ∧ (List.range i).all (rowS L M) = true ∧ w'.heap[w.heap.size + 1]? = some (.cells #[.slice D n d] 29 (0, 0)) ∧ Below w.heap.size w w') (fun k _ => n - (intOf k).toNat)
  case atStart => exact ⟨0, Nat.zero_le _, rfl, rfl, P_b, kb⟩
  case round =>
    clear P_b kb
    obtain ⟨i, hi, rfl, hall, P_b, kb⟩ := hrel
    obtain ⟨V, hVn⟩ : ∃ V, V = wr := ⟨_, rfl⟩
    subst hVn
    by_cases hlt : i < n
    · obtain ⟨p, hp⟩ := getX (L := L) (i := i) (by rw [← HN.out.1]; exact hlt)
      obtain ⟨u, hu⟩ := getX (L := M) (i := i) (by rw [← HN.out.2]; exact hlt)
      have hrow := (RX.out _ kb).1.2.atX hp
      have hrow' := (RX.out _ kb).2.2.atX hu
      obtain ⟨g, o, rfl, _, c0, c1⟩ := (RX.out _ kb).1.1.two hp
      have RP : Hid (∀ W, Below V.heap.size V W → Rds W (rmx p) ∧ Rds W (rmx u)) := Lib.hid (fun W hb => ⟨hrow.below hb, hrow'.below hb⟩)
      have LP := Lib.hid (And.intro (HL.out.1 p (List.mem_of_getElem? hp)) (HL.out.2 u (List.mem_of_getElem? hu)))
      have hsr : rowS L M i = rowE p u := by unfold rowS; rw [hp, hu]
      unfold rowE at hsr
      have HSM : Hid (∀ W, Below V.heap.size V W → Calls Try.prog 21 #[.slice p.B p.V.length p.d, .slice u.B u.V.length u.d] W (fun e w' => e = .returned (.bool (sameQL p.V u.V)) ∧ Below W.heap.size W w')) := Lib.hid (fun W hB => spec_sameQ p.V u.V p.B u.B p.d u.d W (by have := LP.out.1.2.1; omega) LP.out.1.2.2 (RP.out W hB).1.tl.hd (RP.out W hB).1.tl.tl (by have := LP.out.2.2.1; omega) LP.out.2.2.2 (RP.out W hB).2.tl.hd (RP.out W hB).2.tl.tl)
      generalize sameQL p.V u.V = sv at HSM hsr
      obtain ⟨m, hm⟩ : ∃ m, m = p.cs.length := ⟨_, rfl⟩
      obtain ⟨m', hm'⟩ : ∃ m, m = u.cs.length := ⟨_, rfl⟩
      obtain ⟨k, hk⟩ : ∃ m, m = p.V.length := ⟨_, rfl⟩
      obtain ⟨k', hk'⟩ : ∃ m, m = u.V.length := ⟨_, rfl⟩
      have hm63 : m ≤ 1048576 := by rw [hm]; exact LP.out.1.1
      have HM := Lib.hid (And.intro hm hm')
      rw [← hm] at c0 hsr
      rw [← hk] at c1 HSM
      rw [← hm'] at hsr
      rw [← hk'] at HSM
      have HT : Hid (rowS L M i = true → (List.range (i + 1)).all (rowS L M) = true) := Lib.hid (fun h => by rw [rangeQ_succ _ _ hall, h])
      have HFL : Hid (rowS L M i = false → r = false) := Lib.hid (fun h => by rw [HRR.out]; exact rangeQ_no hlt h)
      rw [hsr] at HT HFL
      have HD : Hid (∀ W, Below w.heap.size w W → ∃ g o, D = some ⟨g, o, none⟩ ∧ W.cell? ⟨g, o + i * 2, none⟩ = some (.slice u.A m' u.c) ∧ W.cell? ⟨g, o + i * 2 + 1, none⟩ = some (.slice u.B k' u.d)) := Lib.hid (fun W hb => by
        obtain ⟨g, o, h1, _, h2, h3⟩ := (RX.out _ hb).2.1.two hu
        rw [← hm'] at h2
        rw [← hk'] at h3
        exact ⟨g, o, h1, h2, h3⟩)
      have hi0 : (0 : Int) ≤ (i : Int) := by omega
      have hi1 : (i : Int) < (n : Int) := by omega
      have P_e := heap_alloc_new V (.cells #[.slice p.A m p.c, .slice p.B k p.d] 38)
      have hb := ba1 V (.cells #[.slice p.A m p.c, .slice p.B k p.d] 38)
      obtain ⟨gd, od, rfl, _, _⟩ := HD.out _ kb
      have HW : Hid (∀ W, Below (V.alloc (.cells #[.slice p.A m p.c, .slice p.B k p.d] 38)).heap.size (V.alloc (.cells #[.slice p.A m p.c, .slice p.B k p.d] 38)) W → (W.heap[V.heap.size]? = some (.cells #[.slice p.A m p.c, .slice p.B k p.d] 38 (0, 0)) ∧ W.heap[w.heap.size + 1]? = some (.cells #[.slice (some ⟨gd, od, none⟩) n d] 29 (0, 0))) ∧ Below V.heap.size V W ∧ Below w.heap.size w W) := Lib.hid (fun W hB => ⟨⟨rblk_below P_e hB, rblk_below (rblk_below P_b hb) hB⟩, bt hb hB, bt kb (bt hb hB)⟩)
      clear hrow hrow' hm hm' hk hk' hsr hall P_b P_e kb hb hp hu
      go_wp2_with fail
      clear c0 c1
      generalize V.alloc (.cells #[.slice p.A m p.c, .slice p.B k p.d] 38) = Wb at HW ⊢
      cases sv
      case false =>
        rw [Bool.false_and] at HT HFL
        refine wp_region_held_drew (S := fun w' => Below Wb.heap.size Wb w') (by kernel_rfl) ((Below.refl _ _).drew) (fun hHeld => ?_)
        refine tk (i := 0) (v := ?vg1_1) rfl (by kernel_rfl) (fun _ _ _ h => h) (Or.inl ⟨by rfl, ?hg1_1⟩) hHeld ?_
        case hg1_1 => (intro w hSw; (try dsimp only at hSw); clear hSw; go_simp; (try with_reducible rfl))
        try simp only [ps]
        refine tk (i := 1) (v := ?vg1_2) rfl (by kernel_rfl) (fun _ _ _ h => h) (Or.inl ⟨by rfl, ?hg1_2⟩) hHeld ?_
        case hg1_2 => (intro w hSw; (try dsimp only at hSw); have z0 := rblk_cell (HW.out _ hSw).1.1 1; clear hSw; go_simp; (try with_reducible rfl))
        try simp only [ps]
        refine tk (i := 2) (v := ?vg1_3) rfl (by kernel_rfl) (fun _ _ _ h => h) (Or.inl ⟨by rfl, ?hg1_3⟩) hHeld ?_
        case hg1_3 => (intro w hSw; (try dsimp only at hSw); clear hSw; go_simp; (try with_reducible rfl))
        try simp only [ps]
        refine tk (i := 3) (v := ?vg1_4) rfl (by kernel_rfl) (fun _ _ _ h => h) (Or.inl ⟨by rfl, ?hg1_4⟩) hHeld ?_
        case hg1_4 => (intro w hSw; (try dsimp only at hSw); have z0 := rblk_cell (HW.out _ hSw).1.2 0; clear hSw; go_simp; (try with_reducible rfl))
        try simp only [ps]
        refine tk (i := 4) (v := ?vg1_5) rfl (by kernel_rfl) (fun _ _ _ h => h) (Or.inl ⟨by rfl, ?hg1_5⟩) hHeld ?_
        case hg1_5 => (intro w hSw; (try dsimp only at hSw); clear hSw; go_simp; (try with_reducible rfl))
        try simp only [ps]
        refine tk (i := 5) (v := ?vg1_6) rfl (by kernel_rfl) (fun _ _ _ h => h) (Or.inl ⟨by rfl, ?hg1_6⟩) hHeld ?_
        case hg1_6 => (intro w hSw; (try dsimp only at hSw); clear hSw; go_simp; (try with_reducible rfl))
        try simp only [ps]
        refine tk (i := 6) (v := ?vg1_7) rfl (by kernel_rfl) (fun _ _ _ h => h) (Or.inl ⟨by rfl, ?hg1_7⟩) hHeld ?_
        case hg1_7 => (intro w hSw; (try dsimp only at hSw); clear hSw; go_simp; (try with_reducible rfl))
        try simp only [ps]
        refine tk (i := 7) (v := ?vg1_8) rfl (by kernel_rfl) (fun _ _ _ h => h) (Or.inl ⟨by rfl, ?hg1_8⟩) hHeld ?_
        case hg1_8 => (intro w hSw; (try dsimp only at hSw); obtain ⟨_, _, he, _, z1⟩ := HD.out _ (HW.out _ hSw).2.2; cases he; clear hSw; go_simp; (try with_reducible rfl))
        try simp only [ps]
        refine rd1 (i := 8) (by kernel_rfl) rfl (fun K hK => ?_)
        go_simp
        (go_at_call 21; ((with_reducible refine (HSM.out _ (HW.out _ hHeld).2.1).mono ?_); rintro e Wr1_9 ⟨rfl, hb⟩))
        refine hK.out _ _ (bt hHeld hb) (fun hH => ?_)
        replace hHeld := hH
        clear hK K hH
        clear hb
        try simp only [ps]
        refine tk (i := 9) (v := ?vg1_10) rfl (by kernel_rfl) (fun _ _ _ h => h) (Or.inl ⟨by rfl, ?hg1_10⟩) hHeld ?_
        case hg1_10 => (intro w hSw; (try dsimp only at hSw); clear hSw; go_simp; (try with_reducible rfl))
        try simp only [ps]
        refine tk (i := 10) (v := ?vg1_11) rfl (by kernel_rfl) (fun _ _ _ h => h) (Or.inl ⟨by rfl, ?hg1_11⟩) hHeld ?_
        case hg1_11 => (intro w hSw; (try dsimp only at hSw); clear hSw; go_simp; (try with_reducible rfl))
        try simp only [ps]
        refine tk (i := 11) (v := undef) rfl (by kernel_rfl) (fun _ _ _ h => h) (Or.inr ⟨by rfl, rfl⟩) hHeld ?_
        try simp only [ps]
        refine tk (i := 12) (v := undef) rfl (by kernel_rfl) (fun _ _ _ h => h) (Or.inr ⟨by rfl, rfl⟩) hHeld ?_
        try simp only [ps]
        refine tk (i := 13) (v := undef) rfl (by kernel_rfl) (fun _ _ _ h => h) (Or.inr ⟨by rfl, rfl⟩) hHeld ?_
        try simp only [ps]
        refine tk (i := 14) (v := undef) rfl (by kernel_rfl) (fun _ _ _ h => h) (Or.inr ⟨by rfl, rfl⟩) hHeld ?_
        try simp only [ps]
        refine tk (i := 15) (v := undef) rfl (by kernel_rfl) (fun _ _ _ h => h) (Or.inr ⟨by rfl, rfl⟩) hHeld ?_
        try simp only [ps]
        refine tk (i := 16) (v := undef) rfl (by kernel_rfl) (fun _ _ _ h => h) (Or.inr ⟨by rfl, rfl⟩) hHeld ?_
        try simp only [ps]
        refine tk (i := 17) (v := undef) rfl (by kernel_rfl) (fun _ _ _ h => h) (Or.inr ⟨by rfl, rfl⟩) hHeld ?_
        try simp only [ps]
        refine tk (i := 18) (v := undef) rfl (by kernel_rfl) (fun _ _ _ h => h) (Or.inr ⟨by rfl, rfl⟩) hHeld ?_
        try simp only [ps]
        refine tk (i := 19) (v := undef) rfl (by kernel_rfl) (fun _ _ _ h => h) (Or.inr ⟨by rfl, rfl⟩) hHeld ?_
        try simp only [ps]
        refine tk (i := 20) (v := undef) rfl (by kernel_rfl) (fun _ _ _ h => h) (Or.inr ⟨by rfl, rfl⟩) hHeld ?_
        try simp only [ps]
        refine tk (i := 21) (v := undef) rfl (by kernel_rfl) (fun _ _ _ h => h) (Or.inr ⟨by rfl, rfl⟩) hHeld ?_
        try simp only [ps]
        refine tk (i := 22) (v := ?vg1_23) rfl (by kernel_rfl) (fun _ _ _ h => h) (Or.inl ⟨by rfl, ?hg1_23⟩) hHeld ?_
        case hg1_23 => (intro w hSw; (try dsimp only at hSw); clear hSw; go_simp; (try with_reducible rfl))
        try simp only [ps]
        refine wpAnyH_done (by kernel_rfl) ?_ _
        have kz := (HW.out _ hHeld).2.2
        clear hHeld
        have hrf := HFL.out rfl
        subst hrf
        clear HT HFL
        go_wp2
        go_ret
        exact ⟨rfl, kz⟩
      rw [Bool.true_and] at HT HFL
      by_cases hmm : m = m'
      case neg =>
        rw [decide_eq_false hmm, Bool.false_and] at HT HFL
        have qm : ((m : Int) != (m' : Int)) = true := by rw [bne_iff_ne]; omega
        clear hmm
        refine wp_region_held_drew (S := fun w' => Below Wb.heap.size Wb w') (by kernel_rfl) ((Below.refl _ _).drew) (fun hHeld => ?_)
        refine tk (i := 0) (v := ?vg2_1) rfl (by kernel_rfl) (fun _ _ _ h => h) (Or.inl ⟨by rfl, ?hg2_1⟩) hHeld ?_
        case hg2_1 => (intro w hSw; (try dsimp only at hSw); clear hSw; go_simp; (try with_reducible rfl))
        try simp only [ps]
        refine tk (i := 1) (v := ?vg2_2) rfl (by kernel_rfl) (fun _ _ _ h => h) (Or.inl ⟨by rfl, ?hg2_2⟩) hHeld ?_
        case hg2_2 => (intro w hSw; (try dsimp only at hSw); have z0 := rblk_cell (HW.out _ hSw).1.1 1; clear hSw; go_simp; (try with_reducible rfl))
        try simp only [ps]
        refine tk (i := 2) (v := ?vg2_3) rfl (by kernel_rfl) (fun _ _ _ h => h) (Or.inl ⟨by rfl, ?hg2_3⟩) hHeld ?_
        case hg2_3 => (intro w hSw; (try dsimp only at hSw); clear hSw; go_simp; (try with_reducible rfl))
        try simp only [ps]
        refine tk (i := 3) (v := ?vg2_4) rfl (by kernel_rfl) (fun _ _ _ h => h) (Or.inl ⟨by rfl, ?hg2_4⟩) hHeld ?_
        case hg2_4 => (intro w hSw; (try dsimp only at hSw); have z0 := rblk_cell (HW.out _ hSw).1.2 0; clear hSw; go_simp; (try with_reducible rfl))
        try simp only [ps]
        refine tk (i := 4) (v := ?vg2_5) rfl (by kernel_rfl) (fun _ _ _ h => h) (Or.inl ⟨by rfl, ?hg2_5⟩) hHeld ?_
        case hg2_5 => (intro w hSw; (try dsimp only at hSw); clear hSw; go_simp; (try with_reducible rfl))
        try simp only [ps]
        refine tk (i := 5) (v := ?vg2_6) rfl (by kernel_rfl) (fun _ _ _ h => h) (Or.inl ⟨by rfl, ?hg2_6⟩) hHeld ?_
        case hg2_6 => (intro w hSw; (try dsimp only at hSw); clear hSw; go_simp; (try with_reducible rfl))
        try simp only [ps]
        refine tk (i := 6) (v := ?vg2_7) rfl (by kernel_rfl) (fun _ _ _ h => h) (Or.inl ⟨by rfl, ?hg2_7⟩) hHeld ?_
        case hg2_7 => (intro w hSw; (try dsimp only at hSw); clear hSw; go_simp; (try with_reducible rfl))
        try simp only [ps]
        refine tk (i := 7) (v := ?vg2_8) rfl (by kernel_rfl) (fun _ _ _ h => h) (Or.inl ⟨by rfl, ?hg2_8⟩) hHeld ?_
        case hg2_8 => (intro w hSw; (try dsimp only at hSw); obtain ⟨_, _, he, _, z1⟩ := HD.out _ (HW.out _ hSw).2.2; cases he; clear hSw; go_simp; (try with_reducible rfl))
        try simp only [ps]
        refine rd1 (i := 8) (by kernel_rfl) rfl (fun K hK => ?_)
        go_simp
        (go_at_call 21; ((with_reducible refine (HSM.out _ (HW.out _ hHeld).2.1).mono ?_); rintro e Wr2_9 ⟨rfl, hb⟩))
        refine hK.out _ _ (bt hHeld hb) (fun hH => ?_)
        replace hHeld := hH
        clear hK K hH
        clear hb
        try simp only [ps]
        refine tk (i := 9) (v := ?vg2_10) rfl (by kernel_rfl) (fun _ _ _ h => h) (Or.inl ⟨by rfl, ?hg2_10⟩) hHeld ?_
        case hg2_10 => (intro w hSw; (try dsimp only at hSw); clear hSw; go_simp; (try with_reducible rfl))
        try simp only [ps]
        refine tk (i := 10) (v := ?vg2_11) rfl (by kernel_rfl) (fun _ _ _ h => h) (Or.inl ⟨by rfl, ?hg2_11⟩) hHeld ?_
        case hg2_11 => (intro w hSw; (try dsimp only at hSw); clear hSw; go_simp; (try with_reducible rfl))
        try simp only [ps]
        refine tk (i := 11) (v := ?vg2_12) rfl (by kernel_rfl) (fun _ _ _ h => h) (Or.inl ⟨by rfl, ?hg2_12⟩) hHeld ?_
        case hg2_12 => (intro w hSw; (try dsimp only at hSw); clear hSw; go_simp; (try with_reducible rfl))
        try simp only [ps]
        refine tk (i := 12) (v := ?vg2_13) rfl (by kernel_rfl) (fun _ _ _ h => h) (Or.inl ⟨by rfl, ?hg2_13⟩) hHeld ?_
        case hg2_13 => (intro w hSw; (try dsimp only at hSw); have z0 := rblk_cell (HW.out _ hSw).1.1 0; clear hSw; go_simp; (try with_reducible rfl))
        try simp only [ps]
        refine tk (i := 13) (v := ?vg2_14) rfl (by kernel_rfl) (fun _ _ _ h => h) (Or.inl ⟨by rfl, ?hg2_14⟩) hHeld ?_
        case hg2_14 => (intro w hSw; (try dsimp only at hSw); clear hSw; go_simp; (try with_reducible rfl))
        try simp only [ps]
        refine tk (i := 14) (v := ?vg2_15) rfl (by kernel_rfl) (fun _ _ _ h => h) (Or.inl ⟨by rfl, ?hg2_15⟩) hHeld ?_
        case hg2_15 => (intro w hSw; (try dsimp only at hSw); clear hSw; go_simp; (try with_reducible rfl))
        try simp only [ps]
        refine tk (i := 15) (v := ?vg2_16) rfl (by kernel_rfl) (fun _ _ _ h => h) (Or.inl ⟨by rfl, ?hg2_16⟩) hHeld ?_
        case hg2_16 => (intro w hSw; (try dsimp only at hSw); have z0 := rblk_cell (HW.out _ hSw).1.2 0; clear hSw; go_simp; (try with_reducible rfl))
        try simp only [ps]
        refine tk (i := 16) (v := ?vg2_17) rfl (by kernel_rfl) (fun _ _ _ h => h) (Or.inl ⟨by rfl, ?hg2_17⟩) hHeld ?_
        case hg2_17 => (intro w hSw; (try dsimp only at hSw); clear hSw; go_simp; (try with_reducible rfl))
        try simp only [ps]
        refine tk (i := 17) (v := ?vg2_18) rfl (by kernel_rfl) (fun _ _ _ h => h) (Or.inl ⟨by rfl, ?hg2_18⟩) hHeld ?_
        case hg2_18 => (intro w hSw; (try dsimp only at hSw); clear hSw; go_simp; (try with_reducible rfl))
        try simp only [ps]
        refine tk (i := 18) (v := ?vg2_19) rfl (by kernel_rfl) (fun _ _ _ h => h) (Or.inl ⟨by rfl, ?hg2_19⟩) hHeld ?_
        case hg2_19 => (intro w hSw; (try dsimp only at hSw); clear hSw; go_simp; (try with_reducible rfl))
        try simp only [ps]
        refine tk (i := 19) (v := ?vg2_20) rfl (by kernel_rfl) (fun _ _ _ h => h) (Or.inl ⟨by rfl, ?hg2_20⟩) hHeld ?_
        case hg2_20 => (intro w hSw; (try dsimp only at hSw); obtain ⟨_, _, he, z0, _⟩ := HD.out _ (HW.out _ hSw).2.2; cases he; clear hSw; go_simp; (try with_reducible rfl))
        try simp only [ps]
        refine tk (i := 20) (v := ?vg2_21) rfl (by kernel_rfl) (fun _ _ _ h => h) (Or.inl ⟨by rfl, ?hg2_21⟩) hHeld ?_
        case hg2_21 => (intro w hSw; (try dsimp only at hSw); clear hSw; go_simp; (try with_reducible rfl))
        try simp only [ps]
        refine tk (i := 21) (v := ?vg2_22) rfl (by kernel_rfl) (fun _ _ _ h => h) (Or.inl ⟨by rfl, ?hg2_22⟩) hHeld ?_
        case hg2_22 => (intro w hSw; (try dsimp only at hSw); clear hSw; go_simp; (try with_reducible rfl))
        try simp only [ps]
        refine tk (i := 22) (v := ?vg2_23) rfl (by kernel_rfl) (fun _ _ _ h => h) (Or.inl ⟨by rfl, ?hg2_23⟩) hHeld ?_
        case hg2_23 => (intro w hSw; (try dsimp only at hSw); clear hSw; go_simp; (try with_reducible rfl))
        try simp only [ps]
        refine wpAnyH_done (by kernel_rfl) ?_ _
        have kz := (HW.out _ hHeld).2.2
        clear hHeld
        have hrf := HFL.out rfl
        subst hrf
        clear HT HFL
        go_wp2
        go_ret
        exact ⟨rfl, kz⟩
      subst hmm
      rw [decide_eq_true rfl, Bool.true_and] at HT HFL
      have qm : ((m : Int) != (m : Int)) = false := by simp
      refine wp_region_held_drew (S := fun w' => Below Wb.heap.size Wb w') (by kernel_rfl) ((Below.refl _ _).drew) (fun hHeld => ?_)
      refine tk (i := 0) (v := ?vg3_1) rfl (by kernel_rfl) (fun _ _ _ h => h) (Or.inl ⟨by rfl, ?hg3_1⟩) hHeld ?_
      case hg3_1 => (intro w hSw; (try dsimp only at hSw); clear hSw; go_simp; (try with_reducible rfl))
      try simp only [ps]
      refine tk (i := 1) (v := ?vg3_2) rfl (by kernel_rfl) (fun _ _ _ h => h) (Or.inl ⟨by rfl, ?hg3_2⟩) hHeld ?_
      case hg3_2 => (intro w hSw; (try dsimp only at hSw); have z0 := rblk_cell (HW.out _ hSw).1.1 1; clear hSw; go_simp; (try with_reducible rfl))
      try simp only [ps]
      refine tk (i := 2) (v := ?vg3_3) rfl (by kernel_rfl) (fun _ _ _ h => h) (Or.inl ⟨by rfl, ?hg3_3⟩) hHeld ?_
      case hg3_3 => (intro w hSw; (try dsimp only at hSw); clear hSw; go_simp; (try with_reducible rfl))
      try simp only [ps]
      refine tk (i := 3) (v := ?vg3_4) rfl (by kernel_rfl) (fun _ _ _ h => h) (Or.inl ⟨by rfl, ?hg3_4⟩) hHeld ?_
      case hg3_4 => (intro w hSw; (try dsimp only at hSw); have z0 := rblk_cell (HW.out _ hSw).1.2 0; clear hSw; go_simp; (try with_reducible rfl))
      try simp only [ps]
      refine tk (i := 4) (v := ?vg3_5) rfl (by kernel_rfl) (fun _ _ _ h => h) (Or.inl ⟨by rfl, ?hg3_5⟩) hHeld ?_
      case hg3_5 => (intro w hSw; (try dsimp only at hSw); clear hSw; go_simp; (try with_reducible rfl))
      try simp only [ps]
      refine tk (i := 5) (v := ?vg3_6) rfl (by kernel_rfl) (fun _ _ _ h => h) (Or.inl ⟨by rfl, ?hg3_6⟩) hHeld ?_
      case hg3_6 => (intro w hSw; (try dsimp only at hSw); clear hSw; go_simp; (try with_reducible rfl))
      try simp only [ps]
      refine tk (i := 6) (v := ?vg3_7) rfl (by kernel_rfl) (fun _ _ _ h => h) (Or.inl ⟨by rfl, ?hg3_7⟩) hHeld ?_
      case hg3_7 => (intro w hSw; (try dsimp only at hSw); clear hSw; go_simp; (try with_reducible rfl))
      try simp only [ps]
      refine tk (i := 7) (v := ?vg3_8) rfl (by kernel_rfl) (fun _ _ _ h => h) (Or.inl ⟨by rfl, ?hg3_8⟩) hHeld ?_
      case hg3_8 => (intro w hSw; (try dsimp only at hSw); obtain ⟨_, _, he, _, z1⟩ := HD.out _ (HW.out _ hSw).2.2; cases he; clear hSw; go_simp; (try with_reducible rfl))
      try simp only [ps]
      refine rd1 (i := 8) (by kernel_rfl) rfl (fun K hK => ?_)
      go_simp
      (go_at_call 21; ((with_reducible refine (HSM.out _ (HW.out _ hHeld).2.1).mono ?_); rintro e Wr3_9 ⟨rfl, hb⟩))
      refine hK.out _ _ (bt hHeld hb) (fun hH => ?_)
      replace hHeld := hH
      clear hK K hH
      clear hb
      try simp only [ps]
      refine tk (i := 9) (v := ?vg3_10) rfl (by kernel_rfl) (fun _ _ _ h => h) (Or.inl ⟨by rfl, ?hg3_10⟩) hHeld ?_
      case hg3_10 => (intro w hSw; (try dsimp only at hSw); clear hSw; go_simp; (try with_reducible rfl))
      try simp only [ps]
      refine tk (i := 10) (v := ?vg3_11) rfl (by kernel_rfl) (fun _ _ _ h => h) (Or.inl ⟨by rfl, ?hg3_11⟩) hHeld ?_
      case hg3_11 => (intro w hSw; (try dsimp only at hSw); clear hSw; go_simp; (try with_reducible rfl))
      try simp only [ps]
      refine tk (i := 11) (v := ?vg3_12) rfl (by kernel_rfl) (fun _ _ _ h => h) (Or.inl ⟨by rfl, ?hg3_12⟩) hHeld ?_
      case hg3_12 => (intro w hSw; (try dsimp only at hSw); clear hSw; go_simp; (try with_reducible rfl))
      try simp only [ps]
      refine tk (i := 12) (v := ?vg3_13) rfl (by kernel_rfl) (fun _ _ _ h => h) (Or.inl ⟨by rfl, ?hg3_13⟩) hHeld ?_
      case hg3_13 => (intro w hSw; (try dsimp only at hSw); have z0 := rblk_cell (HW.out _ hSw).1.1 0; clear hSw; go_simp; (try with_reducible rfl))
      try simp only [ps]
      refine tk (i := 13) (v := ?vg3_14) rfl (by kernel_rfl) (fun _ _ _ h => h) (Or.inl ⟨by rfl, ?hg3_14⟩) hHeld ?_
      case hg3_14 => (intro w hSw; (try dsimp only at hSw); clear hSw; go_simp; (try with_reducible rfl))
      try simp only [ps]
      refine tk (i := 14) (v := ?vg3_15) rfl (by kernel_rfl) (fun _ _ _ h => h) (Or.inl ⟨by rfl, ?hg3_15⟩) hHeld ?_
      case hg3_15 => (intro w hSw; (try dsimp only at hSw); clear hSw; go_simp; (try with_reducible rfl))
      try simp only [ps]
      refine tk (i := 15) (v := ?vg3_16) rfl (by kernel_rfl) (fun _ _ _ h => h) (Or.inl ⟨by rfl, ?hg3_16⟩) hHeld ?_
      case hg3_16 => (intro w hSw; (try dsimp only at hSw); have z0 := rblk_cell (HW.out _ hSw).1.2 0; clear hSw; go_simp; (try with_reducible rfl))
      try simp only [ps]
      refine tk (i := 16) (v := ?vg3_17) rfl (by kernel_rfl) (fun _ _ _ h => h) (Or.inl ⟨by rfl, ?hg3_17⟩) hHeld ?_
      case hg3_17 => (intro w hSw; (try dsimp only at hSw); clear hSw; go_simp; (try with_reducible rfl))
      try simp only [ps]
      refine tk (i := 17) (v := ?vg3_18) rfl (by kernel_rfl) (fun _ _ _ h => h) (Or.inl ⟨by rfl, ?hg3_18⟩) hHeld ?_
      case hg3_18 => (intro w hSw; (try dsimp only at hSw); clear hSw; go_simp; (try with_reducible rfl))
      try simp only [ps]
      refine tk (i := 18) (v := ?vg3_19) rfl (by kernel_rfl) (fun _ _ _ h => h) (Or.inl ⟨by rfl, ?hg3_19⟩) hHeld ?_
      case hg3_19 => (intro w hSw; (try dsimp only at hSw); clear hSw; go_simp; (try with_reducible rfl))
      try simp only [ps]
      refine tk (i := 19) (v := ?vg3_20) rfl (by kernel_rfl) (fun _ _ _ h => h) (Or.inl ⟨by rfl, ?hg3_20⟩) hHeld ?_
      case hg3_20 => (intro w hSw; (try dsimp only at hSw); obtain ⟨_, _, he, z0, _⟩ := HD.out _ (HW.out _ hSw).2.2; cases he; clear hSw; go_simp; (try with_reducible rfl))
      try simp only [ps]
      refine tk (i := 20) (v := ?vg3_21) rfl (by kernel_rfl) (fun _ _ _ h => h) (Or.inl ⟨by rfl, ?hg3_21⟩) hHeld ?_
      case hg3_21 => (intro w hSw; (try dsimp only at hSw); clear hSw; go_simp; (try with_reducible rfl))
      try simp only [ps]
      refine tk (i := 21) (v := ?vg3_22) rfl (by kernel_rfl) (fun _ _ _ h => h) (Or.inl ⟨by rfl, ?hg3_22⟩) hHeld ?_
      case hg3_22 => (intro w hSw; (try dsimp only at hSw); clear hSw; go_simp; (try with_reducible rfl))
      try simp only [ps]
      refine tk (i := 22) (v := ?vg3_23) rfl (by kernel_rfl) (fun _ _ _ h => h) (Or.inl ⟨by rfl, ?hg3_23⟩) hHeld ?_
      case hg3_23 => (intro w hSw; (try dsimp only at hSw); clear hSw; go_simp; (try with_reducible rfl))
      try simp only [ps]
      refine wpAnyH_done (by kernel_rfl) ?_ _
      have e0 := rblk_cell (HW.out _ hHeld).1.1 0
      go_wp2_with fail
      clear e0
      obtain ⟨V2, hV2⟩ : ∃ V, V = Wb := ⟨_, rfl⟩
      go_loopw [50] (fun k w' => ∃ j : Nat, j ≤ m ∧ k = .int .i64 (j : Int) ∧ (List.range j).all (colS p u) = true ∧ Below Wb.heap.size Wb w') (fun k _ => m - (intOf k).toNat)
      case atStart => exact ⟨0, Nat.zero_le _, rfl, rfl, hHeld⟩
      case round =>
        clear hHeld
        obtain ⟨j, hj, rfl, hel, kw⟩ := hrel
        by_cases hlj : j < m
        · obtain ⟨x, hx⟩ : ∃ z, p.cs[j]? = some z := ⟨p.cs[j]'(by rw [← HM.out.1]; exact hlj), List.getElem?_eq_getElem _⟩
          obtain ⟨y, hy⟩ : ∃ z, u.cs[j]? = some z := ⟨u.cs[j]'(by rw [← HM.out.2]; exact hlj), List.getElem?_eq_getElem _⟩
          obtain ⟨⟨P_e, P_b⟩, kVw, kww⟩ := HW.out _ kw
          obtain ⟨gc, oc, ea, _, cz⟩ := vi_cell (RP.out _ kVw).1.hd hx
          obtain ⟨gy, oy, eb, _, cy⟩ := vi_cell (RP.out _ kVw).2.hd hy
          obtain ⟨_, _, he, d0, _⟩ := HD.out _ kww
          cases he
          have hce : colS p u j = (x == y) := by unfold colS; rw [hx, hy]; rfl
          have HTJ := Lib.hid (rangeQ_succ _ _ hel)
          have HFJ : Hid (colS p u j = false → r = false) := Lib.hid (fun h => HFL.out (rangeQ_no hlj h))
          rw [hce] at HTJ HFJ
          have hj0 : (0 : Int) ≤ (j : Int) := by omega
          have hj1 : (j : Int) < (m : Int) := by omega
          have b0 := rblk_cell P_b 0
          rw [eb] at d0
          rw [ea]
          clear ea eb hx hy hce hel P_e P_b kVw
          by_cases hxy : x = y
          · have qx : (x == y) = true := by simp [hxy]
            have qn : (x != y) = false := by simp [hxy]
            rw [qx] at HTJ
            have HKZ := Lib.hid kw
            clear HFJ kw kww hxy qx
            go_wp2
            go_roundw
            case rel => exact ⟨j + 1, hlj, by go_num, HTJ.out, HKZ.out⟩
            case measure => simp [intOf]; omega
          · have qx : (x == y) = false := by simpa using hxy
            have qn : (x != y) = true := by simpa using hxy
            have hrf := HFJ.out qx
            subst hrf
            clear HTJ HFJ HT HFL qx hxy kw
            go_wp2
            go_ret
            exact ⟨rfl, kww⟩
        · obtain rfl : j = m := by omega
          have hT := Lib.hid (HT.out hel)
          have HX := Lib.hid (HW.out _ kw)
          clear hel kw
          go_wp2
          go_roundw
          case rel => exact ⟨i + 1, hlt, by go_num, hT.out, HX.out.1.2, HX.out.2.2⟩
          case measure => simp [intOf]; omega
    · obtain rfl : i = n := by omega
      have hrt : r = true := HRR.out.trans hall
      subst hrt
      clear hall P_b
      go_wp2
      go_ret
      exact ⟨rfl, kb⟩
end Go.Proofs.Ytennekieiioilaa
