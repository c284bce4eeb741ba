/-
  The model's IsSymmetric.
-/
import Derived.Test.YtennekieiioilaaGreatAtS
import Derived.Test.YtennekieiioilaaGreatIsM
import Derived.Test.YtennekieiioilaaGreatTk
namespace Go.Proofs.YtennekieiioilaaGreat
open Go.ChangeShapes Go.WideShapes Go.ChangeAt Go.RowKit
open Go.ChangeMaps (open_string shut_string)
set_option linter.unusedVariables false
set_option linter.unusedSimpArgs false
set_option maxRecDepth 4000

/-- An element against the one across. -/
def entAt (R : List MR) (y : Int) (i : Nat) : Option Rat := match R[y.toNat]? with | some q => entO q (i : Int) | none => none
def symEl (R : List MR) (p : MR) (i k : Nat) : Bool := sameR (((datQ p.V)[k]?).getD noR) (ofO (entAt R ((p.cs[k]?).getD 0) i))
def symRow (R : List MR) (i : Nat) : Bool := match R[i]? with | some p => (List.range p.cs.length).all (symEl R p i) | none => true
def symB (R : List MR) : Bool := isMx R && (List.range R.length).all (symRow R)
theorem range_all_succ (f : Nat → Bool) (j : Nat) (h : (List.range j).all f = true) : (List.range (j + 1)).all f = f j := by
  rw [List.range_succ, List.all_append, h]; simp
theorem range_all_no {f : Nat → Bool} {j n : Nat} (hj : j < n) (h : f j = false) : (List.range n).all f = false := by
  cases hx : (List.range n).all f with
  | false => rfl
  | true => rw [List.all_eq_true.1 hx j (List.mem_range.2 hj)] at h; cases h
theorem entAt_dat {R T : List MR} (h : datX T = datX R) (y : Int) (i : Nat) : entAt T y i = entAt R y i := by
  unfold entAt
  cases hp : R[y.toNat]? with
  | none =>
    have : T[y.toNat]? = none := by rw [List.getElem?_eq_none_iff] at hp ⊢; rw [datX_len h]; exact hp
    rw [this]
  | some p =>
    obtain ⟨q, hq, e1, e2⟩ := datX_get h hp
    rw [hq]
    show entO q _ = entO p _
    unfold entO; rw [e1, e2]
theorem symB_dat {R T : List MR} (h : datX T = datX R) : symB T = symB R := by
  have k : symRow T = symRow R := by
    funext i
    unfold symRow
    cases hp : R[i]? with
    | none =>
      have : T[i]? = none := by rw [List.getElem?_eq_none_iff] at hp ⊢; rw [datX_len h]; exact hp
      rw [this]
    | some p =>
      obtain ⟨q, hq, e1, e2⟩ := datX_get h hp
      rw [hq]
      show (List.range q.cs.length).all (symEl T q i) = (List.range p.cs.length).all (symEl R p i)
      have e : symEl T q i = symEl R p i := by
        funext k
        unfold symEl
        rw [e1, e2, entAt_dat h]
      rw [e1, e]
  unfold symB
  rw [isMx_dat h, datX_len h, k]
attribute [local go_sem ↓] Go.wp_at_zero Go.wp_at_succ
set_option maxHeartbeats 4000000 in
theorem spec_symm (R : List MR) (A : Option Addr) (c : Nat) (w : World) (hn : R.length ≤ 9223372036854775807) (hL : ∀ p, p ∈ R → LenX p) (hA : RdS w A (flatX R)) (hR : Rds w (lrowX R)) :
    Calls Tryz.prog 22 #[.agg #[.slice A R.length c]] w (fun e w' => e = .returned (.bool (symB R)) ∧ Below w.heap.size w w') := by
  have HIS : Hid (∀ W, Below w.heap.size w W → Calls Tryz.prog 25 #[.agg #[.slice A R.length c]] W (fun e w' => e = .returned (.bool (isMx R)) ∧ Below W.heap.size W w')) := Lib.hid (fun W hb => spec_isMatrix R A c W hn hL (hA.below hb) (hR.below hb))
  have RX : Hid (∀ W, Below w.heap.size w W → RdS W A (flatX R) ∧ Rds W (lrowX R)) := Lib.hid (fun W hb => ⟨hA.below hb, hR.below hb⟩)
  have HV : Hid (isMx R = true → R.length ≤ 40 ∧ ∀ (i : Nat) (p : MR), R[i]? = some p → p.cs.length = p.V.length ∧ validB p.V = true ∧ (∀ x, x ∈ p.V → x.x.l.length ≤ 24 ∧ x.x.m.length ≤ 24) ∧ ∀ (j : Nat) (z : Int), p.cs[j]? = some z → ∃ y : Nat, z = (y : Int) ∧ y < R.length) := Lib.hid (fun h => by
    unfold isMx at h
    simp only [Bool.and_eq_true, decide_eq_true_eq] at h
    refine ⟨h.1, fun i p hp => ?_⟩
    have hr := allB_at h.2 hp
    unfold rowB at hr
    simp only [Bool.and_eq_true, decide_eq_true_eq] at hr
    refine ⟨hr.1, hr.2.1, fun x hx => ?_, fun j z hz => ?_⟩
    · obtain ⟨r, h4, h5, h6⟩ := valx_yes (List.all_eq_true.1 hr.2.1 x hx)
      have k := (fitO_some h6).len
      rw [← h5] at k
      exact k
    · have hlt : j < p.cs.length := by
        rcases Nat.lt_or_ge j p.cs.length with h | h
        · exact h
        · rw [List.getElem?_eq_none h] at hz; cases hz
      have he := elB_mem hr.2.2 hlt
      unfold elB at he
      rw [hz] at he
      simp only [Bool.and_eq_true, decide_eq_true_eq, Option.getD_some] at he
      exact ⟨z.toNat, by omega, by omega⟩)
  have HL := Lib.hid hL
  obtain ⟨r, hr⟩ : ∃ r, r = symB R := ⟨_, rfl⟩
  rw [← hr]
  unfold symB at hr
  obtain ⟨n, hnn⟩ : ∃ n, n = R.length := ⟨_, rfl⟩
  rw [← hnn] at HIS hr ⊢
  have HN := Lib.hid hnn
  cases hm : isMx R with
  | false =>
    rw [hm] at HIS hr
    rw [Bool.false_and] at hr
    subst hr
    have P_a := heap_alloc_new w (.cells #[.slice A n c] 34)
    have kb := ba1 w (.cells #[.slice A n c] 34)
    have a0 := rblk_cell P_a 0
    clear hA hR hL hnn hm hn
    go_enter Tryz.func22, Tryz.ntmps22
    go_wp2_with fail
    clear a0
    refine (HIS.out _ kb).mono ?_
    rintro e w2 ⟨rfl, hb⟩
    replace kb := bt kb hb
    clear hb
    go_wp2
    go_ret
    exact ⟨rfl, kb⟩
  | true =>
    rw [hm] at HIS hr
    rw [Bool.true_and] at hr
    have HVV := Lib.hid (HV.out hm)
    have hn40 : n ≤ 40 := by rw [hnn]; exact HVV.out.1
    have HRR := Lib.hid hr
    have P_a := heap_alloc_new w (.cells #[.slice A n c] 34)
    have kb := ba1 w (.cells #[.slice A n c] 34)
    have a0 := rblk_cell P_a 0
    clear hA hR hL hnn hm hn hr
    go_enter Tryz.func22, Tryz.ntmps22
    go_wp2_with fail
    clear a0
    generalize w.alloc (.cells #[.slice A n c] 34) = W1 at P_a kb ⊢
    refine (HIS.out _ kb).mono ?_
    rintro e w2 ⟨rfl, hb⟩
    replace P_a := rblk_below P_a hb
    replace kb := bt kb hb
    have a0 := rblk_cell P_a 0
    clear hb HIS
    go_wp2_with fail
    clear a0
    go_loopw [13] (fun k w' => ∃ i : Nat, i ≤ n ∧ k = .int .i64 (i : Int) ∧ (List.range i).all (symRow R) = true ∧ w'.heap[w.heap.size]? = some (.cells #[.slice A n c] 34 (0, 0)) ∧ Below w.heap.size w w') (fun k _ => n - (intOf k).toNat)
    case atStart => exact ⟨0, Nat.zero_le _, rfl, rfl, P_a, kb⟩
    case round =>
      clear P_a kb
      obtain ⟨i, hi, rfl, hall, P_a, kb⟩ := hrel
      obtain ⟨V, hVn⟩ : ∃ V, V = wr := ⟨_, rfl⟩
      subst hVn
      by_cases hlt : i < n
      · obtain ⟨p, hp⟩ := getX (L := R) (i := i) (by rw [← HN.out]; exact hlt)
        have hrow := (RX.out _ kb).2.atX hp
        have HR1 := Lib.hid (HVV.out.2 i p hp)
        obtain ⟨g, o, rfl, _, c0, c1⟩ := (RX.out _ kb).1.two hp
        have RP : Hid (∀ W, Below V.heap.size V W → Rds W (rmx p)) := Lib.hid (fun W hb => hrow.below hb)
        have LP := Lib.hid (HL.out p (List.mem_of_getElem? hp))
        have hsr : symRow R i = (List.range p.cs.length).all (symEl R p i) := by unfold symRow; rw [hp]
        obtain ⟨m, hm⟩ : ∃ m, m = p.cs.length := ⟨_, rfl⟩
        have hm63 : m ≤ 9223372036854775807 := by rw [hm]; exact LP.out.1
        have HM := Lib.hid (And.intro hm (hm.trans HR1.out.1))
        rw [← hm] at c0 hsr
        rw [← HR1.out.1, ← hm] at c1
        have HT : Hid ((List.range m).all (symEl R p i) = true → (List.range (i + 1)).all (symRow R) = true) := Lib.hid (fun h => by rw [range_all_succ _ _ hall, hsr, h])
        have HFL : Hid ((List.range m).all (symEl R p i) = false → r = false) := Lib.hid (fun h => by rw [HRR.out]; exact range_all_no hlt (by rw [hsr, h]))
        have hi0 : (0 : Int) ≤ (i : Int) := by omega
        have hi1 : (i : Int) < (n : Int) := by omega
        have P_e := heap_alloc_new V (.cells #[.slice p.A m p.c, .slice p.B m p.d] 71)
        have hb := ba1 V (.cells #[.slice p.A m p.c, .slice p.B m p.d] 71)
        have P_a2 := rblk_below P_a hb
        have HW : Hid (∀ W, Below (V.alloc (.cells #[.slice p.A m p.c, .slice p.B m p.d] 71)).heap.size (V.alloc (.cells #[.slice p.A m p.c, .slice p.B m p.d] 71)) W → (W.heap[V.heap.size]? = some (.cells #[.slice p.A m p.c, .slice p.B m p.d] 71 (0, 0)) ∧ W.heap[w.heap.size]? = some (.cells #[.slice (some ⟨g, o, none⟩) n c] 34 (0, 0))) ∧ Below V.heap.size V W ∧ Below w.heap.size w W) := Lib.hid (fun W hB => ⟨⟨rblk_below P_e hB, rblk_below P_a2 hB⟩, bt hb hB, bt kb (bt hb hB)⟩)
        have e0 := rblk_cell P_e 0
        clear hrow hm hsr hall P_a P_a2 kb hb hp
        go_wp2_with fail
        clear c0 c1 e0 P_e
        generalize V.alloc (.cells #[.slice p.A m p.c, .slice p.B m p.d] 71) = Wb at HW ⊢
        go_loopw [21] (fun k w' => ∃ j : Nat, j ≤ m ∧ k = .int .i64 (j : Int) ∧ (List.range j).all (symEl R p i) = true ∧ Below Wb.heap.size Wb w') (fun k _ => m - (intOf k).toNat)
        case atStart => exact ⟨0, Nat.zero_le _, rfl, rfl, Below.refl _ _⟩
        case round =>
          obtain ⟨j, hj, rfl, hel, kw⟩ := hrel
          by_cases hlj : j < m
          · obtain ⟨z, hz⟩ : ∃ z, p.cs[j]? = some z := ⟨p.cs[j]'(by rw [← HM.out.1]; exact hlj), List.getElem?_eq_getElem _⟩
            obtain ⟨v, hv⟩ := getQ (L := p.V) (i := j) (by rw [← HM.out.2]; exact hlj)
            obtain ⟨y, rfl, hy⟩ := HR1.out.2.2.2 j z hz
            obtain ⟨q', hq⟩ := getX (L := R) (i := y) hy
            obtain ⟨⟨P_e, P_a⟩, kVw, kww⟩ := HW.out _ kw
            obtain ⟨gc, oc, ea, _, cz⟩ := vi_cell (RP.out _ kVw).hd hz
            obtain ⟨gv, ov, eb, _, v0, v1, v2⟩ := (RP.out _ kVw).tl.hd.three hv
            have hse : symEl R p i j = sameR v.x (ofO (entO q' (i : Int))) := by
              unfold symEl entAt
              rw [hz, show (datQ p.V)[j]? = some v.x by unfold datQ; rw [List.getElem?_map, hv]; rfl]
              show sameR v.x (ofO (match R[(y : Int).toNat]? with | some q => entO q (i : Int) | none => none)) = _
              rw [Int.toNat_natCast, hq]
            have hqv := HVV.out.2 y q' hq
            have lv := HR1.out.2.2.1 v (List.mem_of_getElem? hv)
            have lt := (entL_fit q'.cs (datQ q'.V) (i : Int)).len
            have HAT : Hid (∀ W, Below w.heap.size w W → Calls Tryz.prog 27 #[.agg #[.slice (some ⟨g, o, none⟩) n c], .int .i64 (y : Int), .int .i64 (i : Int)] W (MadeQ W.heap.size (ofO (entO q' (i : Int))) W)) := Lib.hid (fun W hb => by
              have K := spec_at R (some ⟨g, o, none⟩) c y q' (i : Int) W hq (fun x hx => by have := hqv.2.2.1 x hx; show Short x.x; unfold Short; omega) hqv.1 hqv.2.1 HVV.out.1 (RX.out _ hb).1 (RX.out _ hb).2 (HL.out q' (List.mem_of_getElem? hq)).1
              rw [← HN.out] at K; exact K)
            unfold entO at HAT hse
            have HEQ := Lib.hid (fun (a2 : Ad) W (h1 : Rds W (rows v.x v.a)) (h2 : Rds W (rows (ofO (entL q'.cs (datQ q'.V) (i : Int))) a2)) => show Calls Tryz.prog 47 #[.agg #[.bool v.x.p, .slice v.a.A v.x.l.length v.a.c, .slice v.a.D v.x.m.length v.a.d], .agg #[.bool (ofO (entL q'.cs (datQ q'.V) (i : Int))).p, .slice a2.A (ofO (entL q'.cs (datQ q'.V) (i : Int))).l.length a2.c, .slice a2.D (ofO (entL q'.cs (datQ q'.V) (i : Int))).m.length a2.d]] W (fun e w' => e = .returned (.bool (sameR v.x (ofO (entL q'.cs (datQ q'.V) (i : Int))))) ∧ Below W.heap.size W w') from spec_req v.x.p _ v.x.l v.x.m _ _ v.a.A v.a.D a2.A a2.D v.x.l.length v.x.m.length _ _ v.a.c v.a.d a2.c a2.d W rfl rfl rfl rfl (by omega) (by omega) (by omega) (by omega) (rows_rd h1).1 (rows_rd h1).2 (rows_rd h2).1 (rows_rd h2).2)
            have HTJ := Lib.hid (range_all_succ _ _ hel)
            have HFJ : Hid (symEl R p i j = false → r = false) := Lib.hid (fun h => HFL.out (range_all_no hlj h))
            rw [hse] at HTJ HFJ
            generalize sameR v.x (ofO (entL q'.cs (datQ q'.V) (i : Int))) = b at HEQ HTJ HFJ
            generalize ofO (entL q'.cs (datQ q'.V) (i : Int)) = T at HAT HEQ
            unfold MadeQ at HAT
            have HVJ := Lib.hid hv
            have hj0 : (0 : Int) ≤ (j : Int) := by omega
            have hj1 : (j : Int) < (m : Int) := by omega
            have HE := Lib.hid (fun W (hB : Below wr.heap.size wr W) => (HW.out _ (bt kw hB)))
            have HPV := Lib.hid (fun W (hB : Below V.heap.size V W) => (RP.out W hB).tl.tl.atQ hv)
            have HCC := Lib.hid (fun W (hB : Below V.heap.size V W) => (RP.out W hB).tl.hd.three hv)
            rw [eb] at HE HCC P_e
            rw [ea] at HE P_e
            rw [ea]
            have KW := Lib.hid kw
            clear ea eb hz hv hq hse hqv lv lt v0 v1 v2 hel P_a P_e kww kVw
            go_wp2_with fail
            clear cz
            refine wp_region_held_drew (S := fun w' => Below wr.heap.size wr w') (by kernel_rfl) ((Below.refl _ _).drew) (fun hHeld => ?_)
            have HRp : Rds wr.drew (rows v.x v.a) := HPV.out _ (HE.out _ ((Below.refl _ _).drew)).2.1
            refine tk (i := 0) (v := ?vg1_1) rfl (by kernel_rfl) (fun _ _ _ h => h) (Or.inl ⟨by rfl, ?hg1_1⟩) hHeld ?_
            case hg1_1 => (intro w hSw; (try dsimp only at hSw); clear hSw; go_simp; (try with_reducible rfl))
            try simp only [ps]
            refine tk (i := 1) (v := ?vg1_2) rfl (by kernel_rfl) (fun _ _ _ h => h) (Or.inl ⟨by rfl, ?hg1_2⟩) hHeld ?_
            case hg1_2 => (intro w hSw; (try dsimp only at hSw); have z1 := rblk_cell (HE.out _ hSw).1.1 1; clear hSw; go_simp; (try with_reducible rfl))
            try simp only [ps]
            refine tk (i := 2) (v := ?vg1_3) rfl (by kernel_rfl) (fun _ _ _ h => h) (Or.inl ⟨by rfl, ?hg1_3⟩) hHeld ?_
            case hg1_3 => (intro w hSw; (try dsimp only at hSw); clear hSw; go_simp; (try with_reducible rfl))
            try simp only [ps]
            refine tk (i := 3) (v := ?vg1_4) rfl (by kernel_rfl) (fun _ _ _ h => h) (Or.inl ⟨by rfl, ?hg1_4⟩) hHeld ?_
            case hg1_4 => (intro w hSw; (try dsimp only at hSw); clear hSw; go_simp; (try with_reducible rfl))
            try simp only [ps]
            refine tk (i := 4) (v := ?vg1_5) rfl (by kernel_rfl) (fun _ _ _ h => h) (Or.inl ⟨by rfl, ?hg1_5⟩) hHeld ?_
            case hg1_5 => (intro w hSw; (try dsimp only at hSw); obtain ⟨_, _, he, _, z0, z1, z2⟩ := HCC.out _ (HE.out _ hSw).2.1; cases he; clear hSw; go_simp; (try with_reducible rfl))
            try simp only [ps]
            refine tk (i := 5) (v := ?vg1_6) rfl (by kernel_rfl) (fun _ _ _ h => h) (Or.inl ⟨by rfl, ?hg1_6⟩) hHeld ?_
            case hg1_6 => (intro w hSw; (try dsimp only at hSw); have z0 := rblk_cell (HE.out _ hSw).1.2 0; clear hSw; go_simp; (try with_reducible rfl))
            try simp only [ps]
            refine tk (i := 6) (v := ?vg1_7) rfl (by kernel_rfl) (fun _ _ _ h => h) (Or.inl ⟨by rfl, ?hg1_7⟩) hHeld ?_
            case hg1_7 => (intro w hSw; (try dsimp only at hSw); clear hSw; go_simp; (try with_reducible rfl))
            try simp only [ps]
            refine tk (i := 7) (v := ?vg1_8) rfl (by kernel_rfl) (fun _ _ _ h => h) (Or.inl ⟨by rfl, ?hg1_8⟩) hHeld ?_
            case hg1_8 => (intro w hSw; (try dsimp only at hSw); clear hSw; go_simp; (try with_reducible rfl))
            try simp only [ps]
            refine rd1 (i := 8) (by kernel_rfl) rfl (fun K hK => ?_)
            go_simp
            (go_at_call 27; ((with_reducible refine (HAT.out _ (HE.out _ hHeld).2.2).mono ?_); rintro e Wr1_9 ⟨am, rfl, hmx, hmy, om, hapm, hb⟩))
            refine hK.out _ _ (bt hHeld hb) (fun hH => ?_)
            replace hHeld := hH
            clear hK K hH
            replace HRp := HRp.below hb
            replace om := om.rds
            clear hb
            try simp only [ps]
            refine rd1 (i := 9) (by kernel_rfl) rfl (fun K hK => ?_)
            go_simp
            (go_at_call 47; ((with_reducible refine (HEQ.out _ _ HRp om).mono ?_); rintro e Wr1_10 ⟨rfl, hb⟩))
            refine hK.out _ _ (bt hHeld hb) (fun hH => ?_)
            replace hHeld := hH
            clear hK K hH
            replace HRp := HRp.below hb
            replace om := om.below hb
            clear hb
            try simp only [ps]
            refine tk (i := 10) (v := ?vg1_11) rfl (by kernel_rfl) (fun _ _ _ h => h) (Or.inl ⟨by rfl, ?hg1_11⟩) hHeld ?_
            case hg1_11 => (intro w hSw; (try dsimp only at hSw); clear hSw; go_simp; (try with_reducible rfl))
            try simp only [ps]
            refine wpAnyH_done (by kernel_rfl) ?_ _
            have kz := bt KW.out hHeld
            have kz2 := (HE.out _ hHeld).2.2
            clear hHeld HRp om hapm hmx hmy
            cases b
            · have hrf := HFJ.out rfl
              subst hrf
              clear HTJ HFJ
              go_wp2
              go_ret
              exact ⟨rfl, kz2⟩
            · have HKZ := Lib.hid kz
              clear kz kz2 HFJ
              go_wp2
              go_roundw
              case rel => exact ⟨j + 1, hlj, by go_num, HTJ.out, HKZ.out⟩
              case measure => simp [intOf]; omega
          · obtain rfl : j = m := by omega
            have hT := Lib.hid (HT.out hel)
            have HX := Lib.hid (HW.out _ kw)
            clear hel kw
            go_wp2
            go_roundw
            case rel => exact ⟨i + 1, hlt, by go_num, hT.out, HX.out.1.2, HX.out.2.2⟩
            case measure => simp [intOf]; omega
      · obtain rfl : i = n := by omega
        have hrt : r = true := HRR.out.trans hall
        subst hrt
        clear hall P_a
        go_wp2
        go_ret
        exact ⟨rfl, kb⟩
end Go.Proofs.YtennekieiioilaaGreat
