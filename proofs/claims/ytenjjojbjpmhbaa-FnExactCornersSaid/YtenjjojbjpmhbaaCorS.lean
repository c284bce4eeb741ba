/-
  Corners: the model.
-/
import Derived.Test.YtenjjojbjpmhbaaCorI
namespace Go.Proofs.Ytenjjojbjpmhbaa
open Go.ChangeShapes Go.WideShapes Go.ChangeAt Go.RowKit
open Go.ChangeMaps (open_string shut_string)
set_option linter.unusedVariables false
set_option linter.unusedSimpArgs false
set_option maxRecDepth 4000

theorem inI_le (i : Int) (n : Nat) : (decide (0 ≤ i) && decide (i ≤ (n : Int) - 1)) = inI i n := by
  unfold inI
  congr 1
  apply decide_eq_decide.2
  omega
theorem l01In_n (i : Int) (n : Nat) (w : World) : Calls Try.prog 18 #[.int .i64 i, .int .i64 0, .int .i64 ((n : Int) - 1)] w (fun e w' => e = .returned (.bool (inI i n)) ∧ Below w.heap.size w w') := by
  have K := l01In_r i 0 ((n : Int) - 1) w
  rw [inI_le] at K
  exact K
theorem okT_no {n : Int} {t : TV} (h : inI t.a n = false ∨ inI t.b n = false ∨ inI t.c n = false) : okT n t = false := by
  unfold okT
  rcases h with h | h | h <;> rw [h] <;> simp
set_option maxHeartbeats 8000000 in
theorem spec_corners0 (L : List PV) (T : List TV) (A B : Option Addr) (c d : Nat) (k0 : Int) (w : World) (hL : L.length ≤ 1048576) (hT : T.length ≤ 1048576) (hS : ∀ p, p ∈ L → ShortP p) (hA : Rds w (srow A L)) (hB : RdS w B (flatT T)) :
    Calls Try.prog 6 #[.agg #[.slice A L.length c, .slice B T.length d], .int .i64 k0] w (MadePS w.heap.size (corV L T k0) w) := by
  have IX := Lib.hid (fun W => l01In_n k0 T.length W)
  cases hin : inI k0 T.length with
  | false =>
    rw [hin] at IX
    have HN := Lib.hid (fun w' h => made_none w.heap.size (corV_out (L := L) hin) (w := w) (w' := w') h)
    clear hin hA hB hS
    generalize corV L T k0 = GL at HN ⊢
    generalize L.length = n at *
    generalize T.length = k at *
    go_enter Try.func6, Try.ntmps6
    go_wp2_with fail
    have kb := ba1 w (.cells #[.slice A n c, .slice B k d] 31)
    generalize w.alloc (.cells #[.slice A n c, .slice B k d] 31) = W1 at kb ⊢
    refine (IX.out _).mono ?_
    rintro e W2 ⟨rfl, hb⟩
    have HF := Lib.hid (HN.out _ (bt kb hb))
    clear hb kb
    go_wp2
    go_ret
    exact HF.out
  | true =>
  obtain ⟨m, rfl, hm⟩ := inI_nat hin
  rw [hin] at IX
  obtain ⟨t, ht⟩ := getT hm
  have hm0 : (0 : Int) ≤ (m : Int) := by omega
  have hm1 : (m : Int) < (T.length : Int) := by omega
  have HN := Lib.hid (fun (h : inI t.a L.length = false ∨ inI t.b L.length = false ∨ inI t.c L.length = false) w' h' => made_none w.heap.size (show corV L T (m : Int) = [] by rw [corV_in ht, okT_no h]; rfl) (w := w) (w' := w') h')
  obtain ⟨DL, hDL⟩ : ∃ DL, DL = dat [ptAt L t.a, ptAt L t.b, ptAt L t.c] := ⟨_, rfl⟩
  have GY : Hid (inI t.a L.length = true → inI t.b L.length = true → inI t.c L.length = true → dat (corV L T (m : Int)) = DL) := Lib.hid (fun h1 h2 h3 => by
    have ho : okT L.length t = true := by unfold okT; rw [h1, h2, h3]; rfl
    rw [corV_in ht, if_pos ho, hDL])
  have G3 : Hid (DL.length = 3) := Lib.hid (by rw [hDL]; rfl)
  have D0 : Hid (DL[0]? = some ((ptAt L t.a).x, (ptAt L t.a).y)) := Lib.hid (by rw [hDL]; rfl)
  have D1 : Hid (DL[1]? = some ((ptAt L t.b).x, (ptAt L t.b).y)) := Lib.hid (by rw [hDL]; rfl)
  have D2 : Hid (DL[2]? = some ((ptAt L t.c).x, (ptAt L t.c).y)) := Lib.hid (by rw [hDL]; rfl)
  clear hDL
  generalize corV L T (m : Int) = GL at HN GY ⊢
  have LT := Lib.hid (fun W => l07Tri_r t W)
  have IA := Lib.hid (fun W => l01In_n t.a L.length W)
  have IB := Lib.hid (fun W => l01In_n t.b L.length W)
  have IC := Lib.hid (fun W => l01In_n t.c L.length W)
  have PT := Lib.hid (fun (i : Nat) (p : PV) (h : L[i]? = some p) => (And.intro (ptAt_nat h) (And.intro (hS p (List.mem_of_getElem? h)) (fun W (hb : Below w.heap.size w W) => And.intro ((hA.tl.at h).below hb) ((hA.hd.below hb).six h)))))
  have GP := Lib.hid (fun (i : Nat) (h : i < L.length) => getV h)
  obtain ⟨g', o', rfl, hg', f0, f1, f2, f3, f4⟩ := hB.five ht
  clear hA hB hS hin ht hm
  obtain ⟨ta, tb, tc, t4, t5⟩ := t
  dsimp only at *
  generalize hn : L.length = n at *
  generalize T.length = k at *
  clear hn
  go_enter Try.func6, Try.ntmps6
  go_wp2_with fail
  have kb := ba1 w (.cells #[.slice A n c, .slice (some ⟨g', o', none⟩) k d] 31)
  have P_a := heap_alloc_new w (.cells #[.slice A n c, .slice (some ⟨g', o', none⟩) k d] 31)
  generalize w.alloc (.cells #[.slice A n c, .slice (some ⟨g', o', none⟩) k d] 31) = W1 at kb P_a ⊢
  refine (IX.out _).mono ?_
  rintro e W2 ⟨rfl, hb⟩
  replace P_a := rblk_below P_a hb
  replace kb := bt kb hb
  clear hb
  have k3 := ba1 W2 (.cells #[] 51)
  have P_b := rblk_below P_a k3
  have c0 := rblk_cell P_a 0
  have c1 := rblk_cell P_b 1
  have hown := World.ownsRow_made (base := W2.heap.size) (e := 51) (size := 6) W2 #[] 0 (Nat.le_refl _) (by decide) rfl
  have F := Lib.hid (And.intro f0 (And.intro f1 (And.intro f2 (And.intro f3 f4))))
  obtain ⟨f0, f1, f2, f3, f4⟩ : (W2.alloc (.cells #[] 51)).cell? ⟨g', o' + m * 5, none⟩ = some (.int .i64 ta) ∧ (W2.alloc (.cells #[] 51)).cell? ⟨g', o' + m * 5 + 1, none⟩ = some (.int .i64 tb) ∧ (W2.alloc (.cells #[] 51)).cell? ⟨g', o' + m * 5 + 2, none⟩ = some (.int .i64 tc) ∧ (W2.alloc (.cells #[] 51)).cell? ⟨g', o' + m * 5 + 3, none⟩ = some (.int .i64 t4) ∧ (W2.alloc (.cells #[] 51)).cell? ⟨g', o' + m * 5 + 4, none⟩ = some (.int .i64 t5) := ⟨below_cell (bt kb k3) F.out.1, below_cell (bt kb k3) F.out.2.1, below_cell (bt kb k3) F.out.2.2.1, below_cell (bt kb k3) F.out.2.2.2.1, below_cell (bt kb k3) F.out.2.2.2.2⟩
  go_wp2_with fail
  clear f0 f1 f2 f3 f4 c0 c1
  have hz3 : W2.heap.size < (W2.alloc (.cells #[] 51)).heap.size := rblk_lt (heap_alloc_new W2 (.cells #[] 51))
  generalize W2.alloc (.cells #[] 51) = W3 at k3 P_b hown hz3 ⊢
  refine (LT.out _).mono ?_
  rintro e W5 ⟨gA, rfl, oA, hb⟩
  have k5 := bt k3 hb
  have P_c := rblk_below P_b hb
  have hown5 := own6_below hown hb
  have hsz5 := hb.size
  have hwb : w.heap.size < W2.heap.size := rblk_lt P_a
  have HW : Hid (∀ W, Below W2.heap.size W2 W → W.heap[w.heap.size]? = some (.cells #[.slice A n c, .slice (some ⟨g', o', none⟩) k d] 31 (0, 0)) ∧ Below w.heap.size w W) := Lib.hid (fun W hB => ⟨rblk_below P_a hB, bt kb hB⟩)
  have HZ := Lib.hid kb.size
  have HZ3 := Lib.hid hz3
  clear hown hb P_a P_b P_c k3 hz3 kb F IX
  go_wp2
  go_loopw [23, 5] (fun kk v w' => ∃ (j0 : Nat) (M : List PV) (A' : Option Addr) (c' : Nat), j0 ≤ 3 ∧ kk = .int .i64 (j0 : Int) ∧ v = .slice A' j0 c' ∧ (j0 = 0 → A' = some ⟨W2.heap.size, 0, none⟩) ∧ M.length = j0 ∧ w'.ownsRow W2.heap.size 51 6 (.slice A' j0 c') j0 (flat M) ∧ dat M = DL.take j0 ∧ ((0 < j0 → inI ta n = true) ∧ (1 < j0 → inI tb n = true) ∧ (2 < j0 → inI tc n = true)) ∧ (∀ x, x ∈ M → CapP x) ∧ Owns W2.heap.size w'.heap.size w' (lrow M) ∧ Aparts (lrow M) ∧ Owns W3.heap.size W5.heap.size w' [(some ⟨gA, 0, none⟩, vi [ta, tb, tc])] ∧ Below W2.heap.size W2 w' ∧ W5.heap.size ≤ w'.heap.size) (fun kk _ _ => 3 - (intOf kk).toNat)
  case atStart => exact ⟨0, [], _, _, by omega, rfl, rfl, (fun _ => rfl), rfl, hown5, rfl, ⟨(fun h => by omega), (fun h => by omega), (fun h => by omega)⟩, (fun x hx => by cases hx), Owns.nil _ _ _, Aparts.nil, oA, k5, Nat.le_refl _⟩
  case round =>
    clear hown5 oA k5 hsz5
    obtain ⟨j0, M, A', c', hj, rfl, rfl, hA0, hM, hown, hd, hi, hcap, hO, hap, oA, kr, hW5⟩ := hrel
    have HF := Lib.hid (And.intro hM (And.intro hd (And.intro hcap hi)))
    have HR := Lib.hid (And.intro hown (And.intro hO (And.intro hap oA)))
    have HVZ : Hid (∀ g, (Value.slice A' j0 c').ownBlock = some g → g < wr.heap.size) := Lib.hid (fun g h => (hown.lt g h).2)
    have HOF : Hid (∀ g, (Value.slice A' j0 c').ownBlock = some g → OffG g [(some ⟨gA, 0, none⟩, vi [ta, tb, tc])]) := Lib.hid (fun g hg => by
      rcases Nat.eq_zero_or_pos j0 with h0 | h0
      · rw [hA0 h0] at hg
        injection hg with hg
        subst hg
        exact offG_owns oA HZ3.out
      · rcases list_own hown with e | ⟨g2, cap, e, _⟩
        · injection e with _ e2 _; omega
        · injection e with e1 _ e3
          subst e1 e3
          injection hg with hg
          subst hg
          exact off_ints (M := M) (fun h => by rw [h] at hM; simp at hM; omega) (fun r hr => by rw [List.mem_singleton] at hr; subst hr; exact ⟨_, rfl⟩) hown oA)
    have HC : Hid (wr.cell? ⟨gA, 0, none⟩ = some (.int .i64 ta) ∧ wr.cell? ⟨gA, 1, none⟩ = some (.int .i64 tb) ∧ wr.cell? ⟨gA, 2, none⟩ = some (.int .i64 tc)) := Lib.hid (by
      obtain ⟨g9, ha, _, _, hc, _⟩ := oA.hd.block (by simp [vi])
      injection ha with ha; injection ha with ha
      subst ha
      exact ⟨hc 0 (by simp [vi]), hc 1 (by simp [vi]), hc 2 (by simp [vi])⟩)
    have PA := (HW.out _ kr).1
    have HKW := Lib.hid (HW.out _ kr).2
    clear hM hd hcap hown hO hap oA hi hA0
    have hjc : j0 = 0 ∨ j0 = 1 ∨ j0 = 2 ∨ j0 = 3 := by omega
    rcases hjc with rfl | rfl | rfl | rfl
    · skip
      obtain ⟨hc0, hc1, hc2⟩ := HC.out
      have z0 := rblk_cell PA 0
      go_wp2_with fail
      clear hc0 hc1 hc2 z0
      refine (IA.out _).mono ?_
      rintro e W6 ⟨rfl, hb6⟩
      cases hin : inI ta n with
      | false =>
        have HX := Lib.hid (HN.out (.inl hin) _ (bt HKW.out hb6))
        clear kr hb6 PA hin
        go_wp2
        go_ret
        exact HX.out
      | true =>
        obtain ⟨i, hi, hil⟩ := inI_nat hin
        obtain ⟨p, hp⟩ := GP.out i hil
        obtain ⟨ep, hsp, hrp⟩ := PT.out i p hp
        obtain ⟨rp, g, o, hAe, hg, d0, d1, d2, d3, d4, d5⟩ := hrp _ (bt HKW.out hb6)
        have HD : Hid (DL[0]? = some (p.x, p.y)) := Lib.hid (by have h := D0.out; rw [hi, ep] at h; exact h)
        have HI : Hid (inI ta n = true) := Lib.hid hin
        have CP := Lib.hid (fun W (hb : Below W6.heap.size W6 W) => lcopyP p W hsp (rp.below hb))
        unfold MadeP at CP
        have hi0 : (0 : Int) ≤ (i : Int) := by omega
        have hi1 : (i : Int) < (n : Int) := by omega
        have PB := rblk_below PA hb6
        have z0 := rblk_cell PB 0
        have HAE := Lib.hid hAe
        have HHI := Lib.hid hi
        clear hp ep hsp hrp rp PA hin hil
        subst hAe
        subst hi
        go_wp2_with fail
        clear d0 d1 d2 d3 d4 d5 z0 PB
        refine (CP.out _ (Below.refl _ _)).mono ?_
        rintro e W7 ⟨a1, a2, rfl, hcs, o3, hap3, hb7⟩
        have hwx := hb6.size
        have k9 := bt hb6 hb7
        clear hb6 hb7
        have hsz := k9.size
        have k10 := bt kr k9
        have hsz2 := k10.size
        go_wp2_with (refine append_pt2 rfl (.tmp 34) (.tmp 41) rfl W2.heap.size _ W2.heap.size wr.heap.size W7.heap.size (.slice A' _ c') M ⟨p.x, p.y, a1, a2⟩ W7 rfl rfl (own6_below HR.out.1 k9) (by omega) hsz2 (HR.out.2.1.below k9) (o3.wide hwx (Nat.le_refl _)) HR.out.2.2.1 hap3 HVZ.out kr.size hsz (Nat.le_refl _) _ _ _ (HR.out.2.2.2.below k9) HOF.out ?_; intro v' w' hown' hb' hO' hap' oA')
        obtain ⟨A2, c2, rfl⟩ := own_form hown'
        have HX := Lib.hid (And.intro hown' (And.intro hO' (And.intro hap' (And.intro hcs (And.intro oA' (And.intro (k10.trans hb') (show W5.heap.size ≤ w'.heap.size from Nat.le_trans hW5 (Nat.le_trans hsz (Nat.le_trans (Nat.le_refl _) hb'.size)))))))))
        clear hown' hO' hap' oA' hcs hb' k9 k10 o3 hap3 kr
        go_wp2
        go_roundw
        case rel => exact ⟨1, M ++ [⟨p.x, p.y, a1, a2⟩], A2, c2, by omega, by go_num, rfl, (fun h => by omega), by rw [List.length_append, HF.out.1]; rfl, HX.out.1, by rw [show DL.take 1 = DL.take 0 ++ DL[0]?.toList from List.take_add_one, dat_app, HF.out.2.1, HD.out]; rfl, ⟨(fun _ => HI.out), (fun h => by omega), (fun h => by omega)⟩, cap_app (q := ⟨p.x, p.y, a1, a2⟩) HF.out.2.2.1 HX.out.2.2.2.1, HX.out.2.1, HX.out.2.2.1, HX.out.2.2.2.2.1, HX.out.2.2.2.2.2.1, HX.out.2.2.2.2.2.2⟩
        case measure => simp [intOf]
    · skip
      obtain ⟨hc0, hc1, hc2⟩ := HC.out
      have z0 := rblk_cell PA 0
      go_wp2_with fail
      clear hc0 hc1 hc2 z0
      refine (IB.out _).mono ?_
      rintro e W6 ⟨rfl, hb6⟩
      cases hin : inI tb n with
      | false =>
        have HX := Lib.hid (HN.out (.inr (.inl hin)) _ (bt HKW.out hb6))
        clear kr hb6 PA hin
        go_wp2
        go_ret
        exact HX.out
      | true =>
        obtain ⟨i, hi, hil⟩ := inI_nat hin
        obtain ⟨p, hp⟩ := GP.out i hil
        obtain ⟨ep, hsp, hrp⟩ := PT.out i p hp
        obtain ⟨rp, g, o, hAe, hg, d0, d1, d2, d3, d4, d5⟩ := hrp _ (bt HKW.out hb6)
        have HD : Hid (DL[1]? = some (p.x, p.y)) := Lib.hid (by have h := D1.out; rw [hi, ep] at h; exact h)
        have HI : Hid (inI tb n = true) := Lib.hid hin
        have CP := Lib.hid (fun W (hb : Below W6.heap.size W6 W) => lcopyP p W hsp (rp.below hb))
        unfold MadeP at CP
        have hi0 : (0 : Int) ≤ (i : Int) := by omega
        have hi1 : (i : Int) < (n : Int) := by omega
        have PB := rblk_below PA hb6
        have z0 := rblk_cell PB 0
        have HAE := Lib.hid hAe
        have HHI := Lib.hid hi
        clear hp ep hsp hrp rp PA hin hil
        subst hAe
        subst hi
        go_wp2_with fail
        clear d0 d1 d2 d3 d4 d5 z0 PB
        refine (CP.out _ (Below.refl _ _)).mono ?_
        rintro e W7 ⟨a1, a2, rfl, hcs, o3, hap3, hb7⟩
        have hwx := hb6.size
        have k9 := bt hb6 hb7
        clear hb6 hb7
        have hsz := k9.size
        have k10 := bt kr k9
        have hsz2 := k10.size
        go_wp2_with (refine append_pt2 rfl (.tmp 34) (.tmp 41) rfl W2.heap.size _ W2.heap.size wr.heap.size W7.heap.size (.slice A' _ c') M ⟨p.x, p.y, a1, a2⟩ W7 rfl rfl (own6_below HR.out.1 k9) (by omega) hsz2 (HR.out.2.1.below k9) (o3.wide hwx (Nat.le_refl _)) HR.out.2.2.1 hap3 HVZ.out kr.size hsz (Nat.le_refl _) _ _ _ (HR.out.2.2.2.below k9) HOF.out ?_; intro v' w' hown' hb' hO' hap' oA')
        obtain ⟨A2, c2, rfl⟩ := own_form hown'
        have HX := Lib.hid (And.intro hown' (And.intro hO' (And.intro hap' (And.intro hcs (And.intro oA' (And.intro (k10.trans hb') (show W5.heap.size ≤ w'.heap.size from Nat.le_trans hW5 (Nat.le_trans hsz (Nat.le_trans (Nat.le_refl _) hb'.size)))))))))
        clear hown' hO' hap' oA' hcs hb' k9 k10 o3 hap3 kr
        go_wp2
        go_roundw
        case rel => exact ⟨2, M ++ [⟨p.x, p.y, a1, a2⟩], A2, c2, by omega, by go_num, rfl, (fun h => by omega), by rw [List.length_append, HF.out.1]; rfl, HX.out.1, by rw [show DL.take 2 = DL.take 1 ++ DL[1]?.toList from List.take_add_one, dat_app, HF.out.2.1, HD.out]; rfl, ⟨(fun _ => HF.out.2.2.2.1 (by omega)), (fun _ => HI.out), (fun h => by omega)⟩, cap_app (q := ⟨p.x, p.y, a1, a2⟩) HF.out.2.2.1 HX.out.2.2.2.1, HX.out.2.1, HX.out.2.2.1, HX.out.2.2.2.2.1, HX.out.2.2.2.2.2.1, HX.out.2.2.2.2.2.2⟩
        case measure => simp [intOf]
    · skip
      obtain ⟨hc0, hc1, hc2⟩ := HC.out
      have z0 := rblk_cell PA 0
      go_wp2_with fail
      clear hc0 hc1 hc2 z0
      refine (IC.out _).mono ?_
      rintro e W6 ⟨rfl, hb6⟩
      cases hin : inI tc n with
      | false =>
        have HX := Lib.hid (HN.out (.inr (.inr hin)) _ (bt HKW.out hb6))
        clear kr hb6 PA hin
        go_wp2
        go_ret
        exact HX.out
      | true =>
        obtain ⟨i, hi, hil⟩ := inI_nat hin
        obtain ⟨p, hp⟩ := GP.out i hil
        obtain ⟨ep, hsp, hrp⟩ := PT.out i p hp
        obtain ⟨rp, g, o, hAe, hg, d0, d1, d2, d3, d4, d5⟩ := hrp _ (bt HKW.out hb6)
        have HD : Hid (DL[2]? = some (p.x, p.y)) := Lib.hid (by have h := D2.out; rw [hi, ep] at h; exact h)
        have HI : Hid (inI tc n = true) := Lib.hid hin
        have CP := Lib.hid (fun W (hb : Below W6.heap.size W6 W) => lcopyP p W hsp (rp.below hb))
        unfold MadeP at CP
        have hi0 : (0 : Int) ≤ (i : Int) := by omega
        have hi1 : (i : Int) < (n : Int) := by omega
        have PB := rblk_below PA hb6
        have z0 := rblk_cell PB 0
        have HAE := Lib.hid hAe
        have HHI := Lib.hid hi
        clear hp ep hsp hrp rp PA hin hil
        subst hAe
        subst hi
        go_wp2_with fail
        clear d0 d1 d2 d3 d4 d5 z0 PB
        refine (CP.out _ (Below.refl _ _)).mono ?_
        rintro e W7 ⟨a1, a2, rfl, hcs, o3, hap3, hb7⟩
        have hwx := hb6.size
        have k9 := bt hb6 hb7
        clear hb6 hb7
        have hsz := k9.size
        have k10 := bt kr k9
        have hsz2 := k10.size
        go_wp2_with (refine append_pt2 rfl (.tmp 34) (.tmp 41) rfl W2.heap.size _ W2.heap.size wr.heap.size W7.heap.size (.slice A' _ c') M ⟨p.x, p.y, a1, a2⟩ W7 rfl rfl (own6_below HR.out.1 k9) (by omega) hsz2 (HR.out.2.1.below k9) (o3.wide hwx (Nat.le_refl _)) HR.out.2.2.1 hap3 HVZ.out kr.size hsz (Nat.le_refl _) _ _ _ (HR.out.2.2.2.below k9) HOF.out ?_; intro v' w' hown' hb' hO' hap' oA')
        obtain ⟨A2, c2, rfl⟩ := own_form hown'
        have HX := Lib.hid (And.intro hown' (And.intro hO' (And.intro hap' (And.intro hcs (And.intro oA' (And.intro (k10.trans hb') (show W5.heap.size ≤ w'.heap.size from Nat.le_trans hW5 (Nat.le_trans hsz (Nat.le_trans (Nat.le_refl _) hb'.size)))))))))
        clear hown' hO' hap' oA' hcs hb' k9 k10 o3 hap3 kr
        go_wp2
        go_roundw
        case rel => exact ⟨3, M ++ [⟨p.x, p.y, a1, a2⟩], A2, c2, by omega, by go_num, rfl, (fun h => by omega), by rw [List.length_append, HF.out.1]; rfl, HX.out.1, by rw [show DL.take 3 = DL.take 2 ++ DL[2]?.toList from List.take_add_one, dat_app, HF.out.2.1, HD.out]; rfl, ⟨(fun _ => HF.out.2.2.2.1 (by omega)), (fun _ => HF.out.2.2.2.2.1 (by omega)), (fun _ => HI.out)⟩, cap_app (q := ⟨p.x, p.y, a1, a2⟩) HF.out.2.2.1 HX.out.2.2.2.1, HX.out.2.1, HX.out.2.2.1, HX.out.2.2.2.2.1, HX.out.2.2.2.2.2.1, HX.out.2.2.2.2.2.2⟩
        case measure => simp [intOf]
    · have HX := Lib.hid (made_list (L := GL) HR.out.1 HZ.out HZ.out HF.out.1 (HF.out.2.1.trans ((List.take_of_length_le (by rw [G3.out]; omega)).trans (GY.out (HF.out.2.2.2.1 (by omega)) (HF.out.2.2.2.2.1 (by omega)) (HF.out.2.2.2.2.2 (by omega))).symm)) HF.out.2.2.1 HR.out.2.1 HR.out.2.2.1 HKW.out)
      clear kr PA
      go_wp2
      go_ret
      exact HX.out
theorem spec_corners (m : MV) (k0 : Int) (w : World) (hm : ShortM m) (hA : Rds w (srow m.A m.L)) (hB : Rds w [(m.B, flatT m.T)]) :
    Calls Try.prog 6 #[.agg #[.slice m.A m.L.length m.c, .slice m.B m.T.length m.d], .int .i64 k0] w (MadePS w.heap.size (corV m.L m.T k0) w) :=
  spec_corners0 m.L m.T m.A m.B m.c m.d k0 w hm.1 hm.2.1 hm.2.2 hA hB.hd
end Go.Proofs.Ytenjjojbjpmhbaa
