/-
  Fractions of the program and of the model: 'RatMake', 'RatOf', 'RatFromInt'.
-/
import Derived.Test.YtppdholccpgcpaaGreatWg
import Derived.Test.YtppdholccpgcpaaGreatPkH
import Derived.Test.YtppdholccpgcpaaGreatPkD
import Derived.Test.YtppdholccpgcpaaGreatShelf
namespace Go.Proofs.YtppdholccpgcpaaGreat
set_option maxHeartbeats 2000000
open Go.ChangeShapes Go.WideShapes Go.ChangeAt Go.RowKit
set_option linter.unusedVariables false
set_option linter.unusedSimpArgs false
set_option maxRecDepth 4000
attribute [local go_sem ↓] Go.wp_at_zero Go.wp_at_succ
def makQ (p : Bool) (l : List Int) (q : Bool) (l' : List Int) : Option Rat := if okB p l && okB q l' then lowQ (!(p == q)) (val l) (val l') else none
theorem makQ_no {p q : Bool} {l l' : List Int} (h : (okB p l && okB q l') = false) : makQ p l q l' = none := by unfold makQ; rw [h]; rfl
theorem makQ_yes {x y : Int} (h : ln x.natAbs ≤ 60) (h' : ln y.natAbs ≤ 60) : makQ (zn x) (zm x) (zn y) (zm y) = lowQ (!(zn x == zn y)) x.natAbs y.natAbs := by
  unfold makQ
  rw [okB_mk h, okB_mk h', val_zm, val_zm]
  rfl
theorem lowQ_fit {s : Bool} {a b : Nat} {t : Rat} (h : lowQ s a b = some t) : Fit t := by
  unfold lowQ at h
  split at h
  · cases h
  · exact cutQ_fit h
theorem imk_no (p q : Bool) (l l' : List Int) (A A' : Option Addr) (n n' c c' : Nat) (w : World) (hl : l.length = n) (hl' : l'.length = n') (hn : n ≤ 9223372036854775807) (hn' : n' ≤ 9223372036854775807) (hA : RdS w A (vi l)) (hA' : RdS w A' (vi l')) (h0 : (okB p l && okB q l') = false) :
    Calls Tryz.prog 149 #[.agg #[.bool p, .slice A n c], .agg #[.bool q, .slice A' n' c']] w (MadeR w.heap.size false [] [] w) := by
  have H0 := Lib.hid (fun W a b => are_big p q l l' A A' n c n' c' W hl hl' hn hn' a b)
  rw [h0] at H0
  have RR : Hid (∀ W, Below w.heap.size w W → RdS W A (vi l) ∧ RdS W A' (vi l')) := Lib.hid (fun W hb => ⟨hA.below hb, hA'.below hb⟩)
  clear hl hl' hn hn' hA hA'
  go_enter Tryz.func149, Tryz.ntmps149
  go_wp2_with fail
  have kb := ba3 w (.cells #[.bool p, .slice A n c] 27) (.cells #[.bool q, .slice A' n' c'] 27) (.cells z3 29)
  obtain ⟨P_x, P_y, P_o⟩ := blocks3 w (.cells #[.bool p, .slice A n c] 27) (.cells #[.bool q, .slice A' n' c'] 27) (.cells z3 29)
  generalize ((w.alloc (.cells #[.bool p, .slice A n c] 27)).alloc (.cells #[.bool q, .slice A' n' c'] 27)).alloc (.cells z3 29) = W1 at kb P_x P_y P_o ⊢
  obtain ⟨rr, hrr⟩ : ∃ r, r = w.heap.size + 1 + 1 := ⟨_, rfl⟩
  rw [← hrr] at P_o ⊢
  have hrr3 : w.heap.size ≤ rr := by omega
  have nr_x : rr ≠ w.heap.size := by omega
  have nr_y : rr ≠ w.heap.size + 1 := by omega
  clear hrr
  refine (H0.out _ (RR.out _ kb).1 (RR.out _ kb).2).mono ?_
  rintro e W2 ⟨rfl, hb⟩
  replace P_x := rblk_below P_x hb
  replace P_y := rblk_below P_y hb
  replace P_o := rblk_below P_o hb
  replace kb := bt kb hb
  clear hb
  have c_x0 := rblk_cell P_x 0
  have c_x1 := rblk_cell P_x 1
  have c_y0 := rblk_cell P_y 0
  have c_y1 := rblk_cell P_y 1
  have c_o0 := rblk_cell P_o 0
  have c_o1 := rblk_cell P_o 1
  have c_o2 := rblk_cell P_o 2
  have f_o0 := rblk_free P_o 0
  have f_o1 := rblk_free P_o 1
  have f_o2 := rblk_free P_o 2
  go_wp2
  exact bodyPost_ret (v := .agg z3) (by simp [results, Tryz.results149, go_sem, c_o0, c_o1, c_o2]) rfl ⟨none, 0, none, 0, rfl, Nat.le_refl _, Nat.le_refl _, .inl rfl, .inl rfl, (fun a h => by simp [rowOf] at h), below_put3 kb hrr3 _ _ _⟩
theorem imk_zero (p q : Bool) (l l' : List Int) (A A' : Option Addr) (n c c' : Nat) (w : World) (hl : l.length = n) (hl' : l'.length = 0) (hn : n ≤ 9223372036854775807) (h0 : (okB p l && okB q l') = true) (hA : RdS w A (vi l)) (hA' : RdS w A' (vi l')) :
    Calls Tryz.prog 149 #[.agg #[.bool p, .slice A n c], .agg #[.bool q, .slice A' 0 c']] w (MadeR w.heap.size false [] [] w) := by
  have H0 := Lib.hid (fun W a b => are_big p q l l' A A' n c 0 c' W hl hl' hn (by omega) a b)
  rw [h0] at H0
  have RR : Hid (∀ W, Below w.heap.size w W → RdS W A (vi l) ∧ RdS W A' (vi l')) := Lib.hid (fun W hb => ⟨hA.below hb, hA'.below hb⟩)
  clear hl hl' hn hA hA' h0
  go_enter Tryz.func149, Tryz.ntmps149
  go_wp2_with fail
  have kb := ba3 w (.cells #[.bool p, .slice A n c] 27) (.cells #[.bool q, .slice A' 0 c'] 27) (.cells z3 29)
  obtain ⟨P_x, P_y, P_o⟩ := blocks3 w (.cells #[.bool p, .slice A n c] 27) (.cells #[.bool q, .slice A' 0 c'] 27) (.cells z3 29)
  generalize ((w.alloc (.cells #[.bool p, .slice A n c] 27)).alloc (.cells #[.bool q, .slice A' 0 c'] 27)).alloc (.cells z3 29) = W1 at kb P_x P_y P_o ⊢
  obtain ⟨rr, hrr⟩ : ∃ r, r = w.heap.size + 1 + 1 := ⟨_, rfl⟩
  rw [← hrr] at P_o ⊢
  have hrr3 : w.heap.size ≤ rr := by omega
  have nr_x : rr ≠ w.heap.size := by omega
  have nr_y : rr ≠ w.heap.size + 1 := by omega
  clear hrr
  refine (H0.out _ (RR.out _ kb).1 (RR.out _ kb).2).mono ?_
  rintro e W2 ⟨rfl, hb⟩
  replace P_x := rblk_below P_x hb
  replace P_y := rblk_below P_y hb
  replace P_o := rblk_below P_o hb
  replace kb := bt kb hb
  clear hb
  have c_x0 := rblk_cell P_x 0
  have c_x1 := rblk_cell P_x 1
  have c_y0 := rblk_cell P_y 0
  have c_y1 := rblk_cell P_y 1
  have c_o0 := rblk_cell P_o 0
  have c_o1 := rblk_cell P_o 1
  have c_o2 := rblk_cell P_o 2
  have f_o0 := rblk_free P_o 0
  have f_o1 := rblk_free P_o 1
  have f_o2 := rblk_free P_o 2
  go_wp2
  exact bodyPost_ret (v := .agg z3) (by simp [results, Tryz.results149, go_sem, c_o0, c_o1, c_o2]) rfl ⟨none, 0, none, 0, rfl, Nat.le_refl _, Nat.le_refl _, .inl rfl, .inl rfl, (fun a h => by simp [rowOf] at h), below_put3 kb hrr3 _ _ _⟩
theorem imk_yes (x y : Int) (A A' : Option Addr) (n n' c c' : Nat) (w : World) (hn : ln x.natAbs = n) (hn' : ln y.natAbs = n') (h60 : n ≤ 60) (h60' : n' ≤ 60) (hy : 0 < y.natAbs) (hA : RdS w A (vi (zm x))) (hA' : RdS w A' (vi (zm y))) :
    Calls Tryz.prog 149 #[.agg #[.bool (zn x), .slice A n c], .agg #[.bool (zn y), .slice A' n' c']] w (MadeR w.heap.size (qn (lowQ (!(zn x == zn y)) x.natAbs y.natAbs)) (ql (lowQ (!(zn x == zn y)) x.natAbs y.natAbs)) (qd (lowQ (!(zn x == zn y)) x.natAbs y.natAbs)) w) := by
  have H0 := Lib.hid (fun W a b => are_big (zn x) (zn y) (zm x) (zm y) A A' n c n' c' W (by rw [zm_length]; exact hn) (by rw [zm_length]; exact hn') (by omega) (by omega) a b)
  rw [okB_mk (by omega), okB_mk (by omega)] at H0
  obtain ⟨g, hg⟩ : ∃ g, g = Nat.gcd x.natAbs y.natAbs := ⟨_, rfl⟩
  have hgp : 0 < g := by rw [hg]; exact Nat.gcd_pos_of_pos_right _ hy
  obtain ⟨m1, m2, m3⟩ := lowQ_parts (!(zn x == zn y)) x.natAbs y.natAbs hy
  rw [← hg] at m1 m2 m3
  have lg : ln g ≤ 60 := by have := ln_gcd (a := x.natAbs) hy; rw [← hg] at this; omega
  have lg0 : 0 < ln g := by rw [ln_pos hgp]; omega
  have hn0 : 0 < n' := by rw [← hn', ln_pos hy]; omega
  have hz1 : ((n' : Int) == 0) = false := by rw [beq_eq_false_iff_ne]; omega
  have hz0 : ¬ (n' : Int) = 0 := by omega
  have G1 := Lib.hid (fun W a b => impl_gcd x.natAbs y.natAbs A A' n c n' c' W hn hn' h60 h60' a b)
  rw [← hg] at G1
  have D1 := Lib.hid (fun W B e a b => divided_any x.natAbs g A B n c (nd g).length e W hn (nd_length _).symm h60 (by rw [nd_length]; omega) (by rw [nd_length]; omega) a b)
  have D2 := Lib.hid (fun W B e a b => divided_any y.natAbs g A' B n' c' (nd g).length e W hn' (nd_length _).symm h60' (by rw [nd_length]; omega) (by rw [nd_length]; omega) a b)
  have HL := Lib.hid (fun C B B' e e' W h1 h2 h3 h4 h5 => limited_q C (mkRat (sgn (!(zn x == zn y)) x.natAbs) y.natAbs) (!(zn x == zn y)) B B' e e' W (by rw [m1, m3]) h1 h2 h3 h4 h5)
  rw [m1, m2] at HL
  rw [show lowQ (!(zn x == zn y)) x.natAbs y.natAbs = cutQ (mkRat (sgn (!(zn x == zn y)) x.natAbs) y.natAbs) from if_neg (by omega)]
  have RR : Hid (∀ W, Below w.heap.size w W → RdS W A (vi (zm x)) ∧ RdS W A' (vi (zm y))) := Lib.hid (fun W hb => ⟨hA.below hb, hA'.below hb⟩)
  clear lg lg0 hgp m1 m2 m3 hg hn hn' h60 h60' hy hA hA' hn0
  generalize cutQ (mkRat (sgn (!(zn x == zn y)) x.natAbs) y.natAbs) = v at HL ⊢
  generalize qn v = sg at HL ⊢
  generalize ql v = L at HL ⊢
  generalize qd v = M at HL ⊢
  unfold zm at H0 RR
  generalize nd (x.natAbs / g) = X at D1 HL
  generalize nd (y.natAbs / g) = Y at D2 HL
  generalize nd g = G at G1 D1 D2
  generalize nd x.natAbs = La at *
  generalize nd y.natAbs = Lb at *
  generalize zn x = p at H0 HL ⊢
  generalize zn y = q at H0 HL ⊢
  go_enter Tryz.func149, Tryz.ntmps149
  go_wp2_with fail
  have kb := ba3 w (.cells #[.bool p, .slice A n c] 27) (.cells #[.bool q, .slice A' n' c'] 27) (.cells z3 29)
  obtain ⟨P_x, P_y, P_o⟩ := blocks3 w (.cells #[.bool p, .slice A n c] 27) (.cells #[.bool q, .slice A' n' c'] 27) (.cells z3 29)
  generalize ((w.alloc (.cells #[.bool p, .slice A n c] 27)).alloc (.cells #[.bool q, .slice A' n' c'] 27)).alloc (.cells z3 29) = W1 at kb P_x P_y P_o ⊢
  obtain ⟨rr, hrr⟩ : ∃ r, r = w.heap.size + 1 + 1 := ⟨_, rfl⟩
  rw [← hrr] at P_o ⊢
  have hrr3 : w.heap.size ≤ rr := by omega
  have nr_x : rr ≠ w.heap.size := by omega
  have nr_y : rr ≠ w.heap.size + 1 := by omega
  clear hrr
  refine (H0.out _ (RR.out _ kb).1 (RR.out _ kb).2).mono ?_
  rintro e W2 ⟨rfl, hb⟩
  replace P_x := rblk_below P_x hb
  replace P_y := rblk_below P_y hb
  replace P_o := rblk_below P_o hb
  replace kb := bt kb hb
  clear hb
  have c_x0 := rblk_cell P_x 0
  have c_x1 := rblk_cell P_x 1
  have c_y0 := rblk_cell P_y 0
  have c_y1 := rblk_cell P_y 1
  go_wp2_with fail
  clear c_x0 c_x1 c_y0 c_y1
  refine (G1.out _ (RR.out _ kb).1 (RR.out _ kb).2).mono ?_
  rintro e W3 ⟨Ag, cg, rfl, og, hb⟩
  replace P_x := rblk_below P_x hb
  replace P_y := rblk_below P_y hb
  replace P_o := rblk_below P_o hb
  replace kb := bt kb hb
  clear hb
  go_wp2_with fail
  have hltc := rblk_lt P_o
  have hle0 := kb.size
  have SB : Hid (∀ w', Below W3.heap.size W3 w' → (w'.cell? ⟨w.heap.size, 0, none⟩ = some (.bool p) ∧ w'.cell? ⟨w.heap.size, 1, none⟩ = some (.slice A n c) ∧ w'.cell? ⟨w.heap.size + 1, 0, none⟩ = some (.bool q) ∧ w'.cell? ⟨w.heap.size + 1, 1, none⟩ = some (.slice A' n' c') ∧ Below W3.heap.size W3 w')) := Lib.hid (fun w' hB => ⟨rblk_cell (rblk_below P_x hB) 0, rblk_cell (rblk_below P_x hB) 1, rblk_cell (rblk_below P_y hB) 0, rblk_cell (rblk_below P_y hB) 1, hB⟩)
  have KW := Lib.hid kb
  go_cut [6] (fun sv wx => CutP W3 138 (!(p == q)) (X) sv wx)
  case first =>
    clear kb
    go_region_held3 (fun w' => w'.cell? ⟨w.heap.size, 0, none⟩ = some (.bool p) ∧ w'.cell? ⟨w.heap.size, 1, none⟩ = some (.slice A n c) ∧ w'.cell? ⟨w.heap.size + 1, 0, none⟩ = some (.bool q) ∧ w'.cell? ⟨w.heap.size + 1, 1, none⟩ = some (.slice A' n' c') ∧ Below W3.heap.size W3 w')
      (first | (exact SB.out _ (Below.refl _ _).drew) | (exact SB.out _ (ba1 _ _).drew) | (exact SB.out _ (ba1 _ _)) | (go_split_ands; exact SB.out _ (bt (by assumption : Below W3.heap.size W3 _) hb)) | (go_split_ands; exact SB.out _ (Below.alloc (by assumption : Below W3.heap.size W3 _) (Below.size (by assumption : Below W3.heap.size W3 _)) _)) | (go_split_ands; exact SB.out _ (below_put2 (by assumption : Below W3.heap.size W3 _) (by first | exact Nat.le_refl _ | assumption) _ _)))
      (first | (go_at_call 142; go_split_ands; ((with_reducible refine (D1.out _ _ _ (RR.out _ (bt KW.out (by assumption : Below W3.heap.size W3 _))).1 (by first | exact og.rd | exact (OwnS.drew' og).rd | exact (og.below (ba1 _ _)).rd | exact (OwnS.drew' (og.below (ba1 _ _))).rd | exact ((OwnS.drew' og).below (ba1 _ _)).rd)).mono ?_); rintro e Wn0 ⟨Am, cm, rfl, hcm, om, hb⟩; skip; have KB0 := (by assumption : Below W3.heap.size W3 _); have KB := bt KB0 hb; have hsC := KB.size; have hom := om.more KB0.size; (first | (have tt := (tt_a hb).1; have hgB := (tt_a hb).2) | (have tt := (tt_b hb).1; have hgB := (tt_b hb).2) | (have hgB := (tt_c tt hb).2; replace tt := (tt_c tt hb).1) | skip); (first | (have t0 := rblk_cell tt 0; have q0 := rblk_free tt 0; have t1 := rblk_cell tt 1; have q1 := rblk_free tt 1) | skip))))
    all_goals (go_wp2_with fail; go_meet; first | exact ⟨_, Am, cm, rfl, hsC, hcm, heap_alloc_new _ _, hom.below (ba1 _ _), KB.alloc KB.size _⟩ | exact ⟨_, Am, cm, rfl, (by first | exact Nat.le_refl _ | assumption), hcm, rblk_set (rblk_set tt 0 _) 1 _, (own_put2 om hgB _ _).more KB0.size, below_put2 KB (by first | exact Nat.le_refl _ | assumption) _ _⟩)
  case rest =>
    obtain ⟨g_m, Am, cm, rfl, hlo_m, hcm, P_m, om, hb⟩ := hcut
    have hzlec := hb.size
    have nr_m : rr ≠ g_m := by have h1 := rblk_lt P_o; omega
    obtain ⟨W4, hWn⟩ : ∃ W', W' = wc := ⟨_, rfl⟩
    subst hWn
    replace P_x := rblk_below P_x hb
    replace P_y := rblk_below P_y hb
    replace P_o := rblk_below P_o hb
    replace og := og.below hb
    replace kb := bt kb hb
    clear hb KW SB
    go_wp2_with fail
    have hlt6 := rblk_lt P_o
    have hle6 := kb.size
    have im := om.inR (vi_length X)
    have hlec : W3.heap.size ≤ W4.heap.size := hzlec
    have SB : Hid (∀ w', Keep3 W4 w' rr → (w'.cell? ⟨w.heap.size, 0, none⟩ = some (.bool p) ∧ w'.cell? ⟨w.heap.size, 1, none⟩ = some (.slice A n c) ∧ w'.cell? ⟨w.heap.size + 1, 0, none⟩ = some (.bool q) ∧ w'.cell? ⟨w.heap.size + 1, 1, none⟩ = some (.slice A' n' c') ∧ w'.cell? ⟨g_m, 0, none⟩ = some (.bool (!(p == q))) ∧ w'.cell? ⟨g_m, 1, none⟩ = some (.slice Am X.length cm) ∧ Keep3 W4 w' rr)) := Lib.hid (fun w' hK => ⟨rblk_cell (hK.block P_x nr_x) 0, rblk_cell (hK.block P_x nr_x) 1, rblk_cell (hK.block P_y nr_y) 0, rblk_cell (hK.block P_y nr_y) 1, rblk_cell (hK.block P_m nr_m) 0, rblk_cell (hK.block P_m nr_m) 1, hK⟩)
    have KW := Lib.hid kb
    have KST := Keep3.start P_o
    clear kb
    go_region_held3 (fun w' => w'.cell? ⟨w.heap.size, 0, none⟩ = some (.bool p) ∧ w'.cell? ⟨w.heap.size, 1, none⟩ = some (.slice A n c) ∧ w'.cell? ⟨w.heap.size + 1, 0, none⟩ = some (.bool q) ∧ w'.cell? ⟨w.heap.size + 1, 1, none⟩ = some (.slice A' n' c') ∧ w'.cell? ⟨g_m, 0, none⟩ = some (.bool (!(p == q))) ∧ w'.cell? ⟨g_m, 1, none⟩ = some (.slice Am X.length cm) ∧ Keep3 W4 w' rr)
      (first | (exact SB.out _ KST.drew) | (exact SB.out _ KST) | (exact SB.out _ (KST.below (ba1 _ _))) | (exact SB.out _ (KST.drew.below (ba1 _ _))) | (go_split_ands; exact SB.out _ (Keep3.below (by assumption : Keep3 W4 _ rr) hb)) | (go_split_ands; exact SB.out _ (Keep3.put3 (by assumption : Keep3 W4 _ rr) _ _ _)) | (go_split_ands; exact SB.out _ (Keep3.below (by assumption : Keep3 W4 _ rr) (ba1 _ _))))
      (first | (go_at_call 142; go_split_ands; ((with_reducible refine (D2.out _ _ _ (RR.out _ (Keep3.base (by assumption : Keep3 W4 _ rr) KW.out hrr3)).2 (by first | exact og.rd | exact (OwnS.drew' og).rd | exact (og.below (ba1 _ _)).rd | exact (OwnS.drew' (og.below (ba1 _ _))).rd | exact ((OwnS.drew' og).below (ba1 _ _)).rd)).mono ?_); rintro e Wn1_0 ⟨Ad, cd, rfl, hcd, od, hb⟩; have hsz7 := Keep3.size (by assumption : Keep3 W4 _ rr); have hap0 := im.apart (od.inR (vi_length Y)) (.inl hsz7); replace od := od.more (Nat.le_trans hlec hsz7); (first | replace om := om.below hb | replace om := (OwnS.drew' om).below hb | replace om := (om.below (ba1 _ _)).below hb | replace om := (OwnS.drew' (om.below (ba1 _ _))).below hb | replace om := ((OwnS.drew' om).below (ba1 _ _)).below hb))) | (go_at_call 144; go_split_ands; ((with_reducible refine (HL.out _ _ _ _ _ _ hcm hcd om od hap0).mono ?_); rintro e Wn1_1 ⟨A3, c3, D3, d3, rfl, hc3, hd3, o3, o4, hap3, hb⟩; have hltr := Keep3.lt (by assumption : Keep3 W4 _ rr); have KL := Keep3.below (by assumption : Keep3 W4 _ rr) hb; obtain ⟨u0, u1, u2, t0, t1, t2, t3, t4, t5⟩ := KL.cells)))
    all_goals
      have hfin := (‹_ ∧ _ ∧ _ ∧ _ ∧ _ ∧ _ ∧ Keep3 W4 _ rr›).2.2.2.2.2.2
      go_wp2
      exact bodyPost_ret (v := .agg (g3 sg A3 L.length c3 D3 M.length d3)) (by simp [results, Tryz.results149, go_sem, t0, t1, t2]) rfl ⟨A3, c3, D3, d3, rfl, hc3, hd3, (own_put3 o3 hltc _ _ _).more hle0, (own_put3 o4 hltc _ _ _).more hle0, hap3, hfin.base KW.out hrr3⟩
theorem impl_rmake (p q : Bool) (l l' : List Int) (A A' : Option Addr) (n n' c c' : Nat) (w : World) (hl : l.length = n) (hl' : l'.length = n') (hn : n ≤ 9223372036854775807) (hn' : n' ≤ 9223372036854775807) (hA : RdS w A (vi l)) (hA' : RdS w A' (vi l')) :
    Calls Tryz.prog 149 #[.agg #[.bool p, .slice A n c], .agg #[.bool q, .slice A' n' c']] w (MadeR w.heap.size (qn (makQ p l q l')) (ql (makQ p l q l')) (qd (makQ p l q l')) w) := by
  by_cases h0 : (okB p l && okB q l') = true
  · have h0' := h0
    rw [Bool.and_eq_true] at h0'
    obtain ⟨x, e1, e2, hx⟩ := okB_z h0'.1
    obtain ⟨y, e3, e4, hy⟩ := okB_z h0'.2
    by_cases hz : y.natAbs = 0
    · have hv : makQ p l q l' = none := by rw [e1, e2, e3, e4, makQ_yes hx hy]; exact if_pos hz
      rw [hv]
      have hq : l' = [] := by rw [e4]; unfold zm; rw [hz, nd_zero]
      have hn0 : n' = 0 := by rw [← hl', hq]; rfl
      subst hn0
      exact imk_zero p q l l' A A' n c c' w hl hl' hn h0 hA hA'
    · have hv : makQ p l q l' = lowQ (!(zn x == zn y)) x.natAbs y.natAbs := by rw [e1, e2, e3, e4, makQ_yes hx hy]
      rw [hv]
      subst e1 e2 e3 e4
      rw [zm_length] at hl hl'
      exact imk_yes x y A A' n n' c c' w hl hl' (by omega) (by omega) (by omega) hA hA'
  · have h0' : (okB p l && okB q l') = false := by simpa using h0
    rw [makQ_no h0']
    exact imk_no p q l l' A A' n n' c c' w hl hl' hn hn' hA hA' h0'
theorem smk_n1 (p q : Bool) (l l' : List Int) (A A' : Option Addr) (n n' c c' : Nat) (w : World) (hl : l.length = n) (hl' : l'.length = n') (hn : n ≤ 9223372036854775807) (hn' : n' ≤ 9223372036854775807) (hA : RdS w A (vi l)) (hA' : RdS w A' (vi l')) (h1 : okB p l = false) :
    Calls Tryz.prog 176 #[.agg #[.bool p, .slice A n c], .agg #[.bool q, .slice A' n' c']] w (MadeR w.heap.size false [] [] w) := by
  have H1 := Lib.hid (fun W a => spec_bok p l A n c W hl hn a)
  have H2 := Lib.hid (fun W a => spec_bok q l' A' n' c' W hl' hn' a)
  rw [h1] at H1
  clear H2
  have RR : Hid (∀ W, Below w.heap.size w W → RdS W A (vi l) ∧ RdS W A' (vi l')) := Lib.hid (fun W hb => ⟨hA.below hb, hA'.below hb⟩)
  clear hl hl' hn hn' hA hA'
  go_enter Tryz.func176, Tryz.ntmps176
  go_wp2_with fail
  have kb := ba3 w (.cells #[.bool p, .slice A n c] 27) (.cells #[.bool q, .slice A' n' c'] 27) (.cells z3 29)
  obtain ⟨P_x, P_y, P_o⟩ := blocks3 w (.cells #[.bool p, .slice A n c] 27) (.cells #[.bool q, .slice A' n' c'] 27) (.cells z3 29)
  generalize ((w.alloc (.cells #[.bool p, .slice A n c] 27)).alloc (.cells #[.bool q, .slice A' n' c'] 27)).alloc (.cells z3 29) = W1 at kb P_x P_y P_o ⊢
  obtain ⟨rr, hrr⟩ : ∃ r, r = w.heap.size + 1 + 1 := ⟨_, rfl⟩
  rw [← hrr] at P_o ⊢
  have hrr3 : w.heap.size ≤ rr := by omega
  have nr_x : rr ≠ w.heap.size := by omega
  have nr_y : rr ≠ w.heap.size + 1 := by omega
  clear hrr
  refine (H1.out _ (RR.out _ kb).1).mono ?_
  rintro e W2 ⟨rfl, hb⟩
  replace P_x := rblk_below P_x hb
  replace P_y := rblk_below P_y hb
  replace P_o := rblk_below P_o hb
  replace kb := bt kb hb
  clear hb
  have c_x0 := rblk_cell P_x 0
  have c_x1 := rblk_cell P_x 1
  have c_y0 := rblk_cell P_y 0
  have c_y1 := rblk_cell P_y 1
  have c_o0 := rblk_cell P_o 0
  have c_o1 := rblk_cell P_o 1
  have c_o2 := rblk_cell P_o 2
  have f_o0 := rblk_free P_o 0
  have f_o1 := rblk_free P_o 1
  have f_o2 := rblk_free P_o 2
  go_wp2
  exact bodyPost_ret (v := .agg z3) (by simp [results, Tryz.results176, go_sem, c_o0, c_o1, c_o2]) rfl ⟨none, 0, none, 0, rfl, Nat.le_refl _, Nat.le_refl _, .inl rfl, .inl rfl, (fun a h => by simp [rowOf] at h), below_put3 kb hrr3 _ _ _⟩
theorem smk_n2 (p q : Bool) (l l' : List Int) (A A' : Option Addr) (n n' c c' : Nat) (w : World) (hl : l.length = n) (hl' : l'.length = n') (hn : n ≤ 9223372036854775807) (hn' : n' ≤ 9223372036854775807) (hA : RdS w A (vi l)) (hA' : RdS w A' (vi l')) (h1 : okB p l = true) (h2 : okB q l' = false) :
    Calls Tryz.prog 176 #[.agg #[.bool p, .slice A n c], .agg #[.bool q, .slice A' n' c']] w (MadeR w.heap.size false [] [] w) := by
  have H1 := Lib.hid (fun W a => spec_bok p l A n c W hl hn a)
  have H2 := Lib.hid (fun W a => spec_bok q l' A' n' c' W hl' hn' a)
  rw [h1] at H1
  rw [h2] at H2
  have RR : Hid (∀ W, Below w.heap.size w W → RdS W A (vi l) ∧ RdS W A' (vi l')) := Lib.hid (fun W hb => ⟨hA.below hb, hA'.below hb⟩)
  clear hl hl' hn hn' hA hA'
  go_enter Tryz.func176, Tryz.ntmps176
  go_wp2_with fail
  have kb := ba3 w (.cells #[.bool p, .slice A n c] 27) (.cells #[.bool q, .slice A' n' c'] 27) (.cells z3 29)
  obtain ⟨P_x, P_y, P_o⟩ := blocks3 w (.cells #[.bool p, .slice A n c] 27) (.cells #[.bool q, .slice A' n' c'] 27) (.cells z3 29)
  generalize ((w.alloc (.cells #[.bool p, .slice A n c] 27)).alloc (.cells #[.bool q, .slice A' n' c'] 27)).alloc (.cells z3 29) = W1 at kb P_x P_y P_o ⊢
  obtain ⟨rr, hrr⟩ : ∃ r, r = w.heap.size + 1 + 1 := ⟨_, rfl⟩
  rw [← hrr] at P_o ⊢
  have hrr3 : w.heap.size ≤ rr := by omega
  have nr_x : rr ≠ w.heap.size := by omega
  have nr_y : rr ≠ w.heap.size + 1 := by omega
  clear hrr
  refine (H1.out _ (RR.out _ kb).1).mono ?_
  rintro e W2 ⟨rfl, hb⟩
  replace P_x := rblk_below P_x hb
  replace P_y := rblk_below P_y hb
  replace P_o := rblk_below P_o hb
  replace kb := bt kb hb
  clear hb
  have c_x0 := rblk_cell P_x 0
  have c_x1 := rblk_cell P_x 1
  have c_y0 := rblk_cell P_y 0
  have c_y1 := rblk_cell P_y 1
  go_wp2_with fail
  clear c_x0 c_x1 c_y0 c_y1
  refine (H2.out _ (RR.out _ kb).2).mono ?_
  rintro e W3 ⟨rfl, hb⟩
  replace P_x := rblk_below P_x hb
  replace P_y := rblk_below P_y hb
  replace P_o := rblk_below P_o hb
  replace kb := bt kb hb
  clear hb
  have c_x0 := rblk_cell P_x 0
  have c_x1 := rblk_cell P_x 1
  have c_y0 := rblk_cell P_y 0
  have c_y1 := rblk_cell P_y 1
  have c_o0 := rblk_cell P_o 0
  have c_o1 := rblk_cell P_o 1
  have c_o2 := rblk_cell P_o 2
  have f_o0 := rblk_free P_o 0
  have f_o1 := rblk_free P_o 1
  have f_o2 := rblk_free P_o 2
  go_wp2
  exact bodyPost_ret (v := .agg z3) (by simp [results, Tryz.results176, go_sem, c_o0, c_o1, c_o2]) rfl ⟨none, 0, none, 0, rfl, Nat.le_refl _, Nat.le_refl _, .inl rfl, .inl rfl, (fun a h => by simp [rowOf] at h), below_put3 kb hrr3 _ _ _⟩
theorem smk_yes (x y : Int) (A A' : Option Addr) (n n' c c' : Nat) (w : World) (hn : ln x.natAbs = n) (hn' : ln y.natAbs = n') (h60 : n ≤ 60) (h60' : n' ≤ 60) (hc : n ≤ c) (hc' : n' ≤ c') (hA : RdS w A (vi (zm x))) (hA' : RdS w A' (vi (zm y))) :
    Calls Tryz.prog 176 #[.agg #[.bool (zn x), .slice A n c], .agg #[.bool (zn y), .slice A' n' c']] w (MadeR w.heap.size (qn (lowQ (!(zn x == zn y)) x.natAbs y.natAbs)) (ql (lowQ (!(zn x == zn y)) x.natAbs y.natAbs)) (qd (lowQ (!(zn x == zn y)) x.natAbs y.natAbs)) w) := by
  have H1 := Lib.hid (fun W a => spec_bok (zn x) (zm x) A n c W (by rw [zm_length]; exact hn) (by omega) a)
  have H2 := Lib.hid (fun W a => spec_bok (zn y) (zm y) A' n' c' W (by rw [zm_length]; exact hn') (by omega) a)
  rw [okB_mk (by omega)] at H1 H2
  have HL := Lib.hid (fun W a b => spec_low (!(zn x == zn y)) x.natAbs y.natAbs A A' n c n' c' W (by omega) (by omega) h60 h60' hc hc' a b)
  rw [show row n (x.natAbs : Int) = zm x by rw [← hn]; rfl, show row n' (y.natAbs : Int) = zm y by rw [← hn']; rfl] at HL
  have RR : Hid (∀ W, Below w.heap.size w W → RdS W A (vi (zm x)) ∧ RdS W A' (vi (zm y))) := Lib.hid (fun W hb => ⟨hA.below hb, hA'.below hb⟩)
  clear hn hn' h60 h60' hc hc' hA hA'
  generalize lowQ (!(zn x == zn y)) x.natAbs y.natAbs = v at HL ⊢
  generalize qn v = sg at HL ⊢
  generalize ql v = L at HL ⊢
  generalize qd v = M at HL ⊢
  generalize zm x = La at *
  generalize zm y = Lb at *
  generalize zn x = p at *
  generalize zn y = q at *
  go_enter Tryz.func176, Tryz.ntmps176
  go_wp2_with fail
  have kb := ba3 w (.cells #[.bool p, .slice A n c] 27) (.cells #[.bool q, .slice A' n' c'] 27) (.cells z3 29)
  obtain ⟨P_x, P_y, P_o⟩ := blocks3 w (.cells #[.bool p, .slice A n c] 27) (.cells #[.bool q, .slice A' n' c'] 27) (.cells z3 29)
  generalize ((w.alloc (.cells #[.bool p, .slice A n c] 27)).alloc (.cells #[.bool q, .slice A' n' c'] 27)).alloc (.cells z3 29) = W1 at kb P_x P_y P_o ⊢
  obtain ⟨rr, hrr⟩ : ∃ r, r = w.heap.size + 1 + 1 := ⟨_, rfl⟩
  rw [← hrr] at P_o ⊢
  have hrr3 : w.heap.size ≤ rr := by omega
  have nr_x : rr ≠ w.heap.size := by omega
  have nr_y : rr ≠ w.heap.size + 1 := by omega
  clear hrr
  refine (H1.out _ (RR.out _ kb).1).mono ?_
  rintro e W2 ⟨rfl, hb⟩
  replace P_x := rblk_below P_x hb
  replace P_y := rblk_below P_y hb
  replace P_o := rblk_below P_o hb
  replace kb := bt kb hb
  clear hb
  have c_x0 := rblk_cell P_x 0
  have c_x1 := rblk_cell P_x 1
  have c_y0 := rblk_cell P_y 0
  have c_y1 := rblk_cell P_y 1
  go_wp2_with fail
  clear c_x0 c_x1 c_y0 c_y1
  refine (H2.out _ (RR.out _ kb).2).mono ?_
  rintro e W3 ⟨rfl, hb⟩
  replace P_x := rblk_below P_x hb
  replace P_y := rblk_below P_y hb
  replace P_o := rblk_below P_o hb
  replace kb := bt kb hb
  clear hb
  have c_x0 := rblk_cell P_x 0
  have c_x1 := rblk_cell P_x 1
  have c_y0 := rblk_cell P_y 0
  have c_y1 := rblk_cell P_y 1
  go_wp2_with fail
  clear c_x0 c_x1 c_y0 c_y1
  have hltr := rblk_lt P_o
  refine (HL.out _ (RR.out _ kb).1 (RR.out _ kb).2).mono ?_
  rintro e W4 ⟨A3, c3, D3, d3, rfl, hc3, hd3, o3, o4, hap3, hb⟩
  replace P_x := rblk_below P_x hb
  replace P_y := rblk_below P_y hb
  replace P_o := rblk_below P_o hb
  replace kb := bt kb hb
  clear hb
  have c_o0 := rblk_cell P_o 0
  have c_o1 := rblk_cell P_o 1
  have c_o2 := rblk_cell P_o 2
  have f_o0 := rblk_free P_o 0
  have f_o1 := rblk_free P_o 1
  have f_o2 := rblk_free P_o 2
  go_wp2
  exact bodyPost_ret (v := .agg (g3 sg A3 L.length c3 D3 M.length d3)) (by simp [results, Tryz.results176, go_sem, c_o0, c_o1, c_o2]) rfl ⟨A3, c3, D3, d3, rfl, hc3, hd3, (own_put3 o3 hltr _ _ _).more (Nat.le_trans hrr3 (Nat.le_of_lt hltr)), (own_put3 o4 hltr _ _ _).more (Nat.le_trans hrr3 (Nat.le_of_lt hltr)), hap3, below_put3 kb hrr3 _ _ _⟩
theorem spec_rmake (p q : Bool) (l l' : List Int) (A A' : Option Addr) (n n' c c' : Nat) (w : World) (hl : l.length = n) (hl' : l'.length = n') (hn : n ≤ 9223372036854775807) (hn' : n' ≤ 9223372036854775807) (hc : n ≤ c) (hc' : n' ≤ c') (hA : RdS w A (vi l)) (hA' : RdS w A' (vi l')) :
    Calls Tryz.prog 176 #[.agg #[.bool p, .slice A n c], .agg #[.bool q, .slice A' n' c']] w (MadeR w.heap.size (qn (makQ p l q l')) (ql (makQ p l q l')) (qd (makQ p l q l')) w) := by
  by_cases h1 : okB p l = true
  · by_cases h2 : okB q l' = true
    · obtain ⟨x, e1, e2, hx⟩ := okB_z h1
      obtain ⟨y, e3, e4, hy⟩ := okB_z h2
      have hv : makQ p l q l' = lowQ (!(zn x == zn y)) x.natAbs y.natAbs := by rw [e1, e2, e3, e4, makQ_yes hx hy]
      rw [hv]
      subst e1 e2 e3 e4
      rw [zm_length] at hl hl'
      exact smk_yes x y A A' n n' c c' w hl hl' (by omega) (by omega) hc hc' hA hA'
    · have h2' : okB q l' = false := by simpa using h2
      rw [makQ_no (by rw [h2', Bool.and_false])]
      exact smk_n2 p q l l' A A' n n' c c' w hl hl' hn hn' hA hA' h1 h2'
  · have h1' : okB p l = false := by simpa using h1
    rw [makQ_no (by rw [h1', Bool.false_and])]
    exact smk_n1 p q l l' A A' n n' c c' w hl hl' hn hn' hA hA' h1'
def ofQ (x y : Int) : Option Rat := makQ (zn x) (zm x) (zn y) (zm y)
theorem impl_rof (x y : Int) (w : World) (h0 : -9223372036854775808 ≤ x ∧ x ≤ 9223372036854775807) (h1 : -9223372036854775808 ≤ y ∧ y ≤ 9223372036854775807) :
    Calls Tryz.prog 82 #[.int .i64 x, .int .i64 y] w (MadeR w.heap.size (qn (ofQ x y)) (ql (ofQ x y)) (qd (ofQ x y)) w) := by
  have B1 := Lib.hid (fun W => impl_bof x W h0.1 h0.2)
  have B2 := Lib.hid (fun W => impl_bof y W h1.1 h1.2)
  unfold MadeZ MadeB at B1 B2
  have lx := ln_word (show x.natAbs ≤ 9223372036854775808 by omega)
  have ly := ln_word (show y.natAbs ≤ 9223372036854775808 by omega)
  have HM := Lib.hid (fun W B e B' e' (hc1 : (zm x).length ≤ e) (hc2 : (zm y).length ≤ e') a b => impl_rmake (zn x) (zn y) (zm x) (zm y) B B' (zm x).length (zm y).length e e' W rfl rfl (by rw [zm_length]; omega) (by rw [zm_length]; omega) a b)
  rw [show makQ (zn x) (zm x) (zn y) (zm y) = ofQ x y from rfl] at HM
  clear lx ly h0 h1
  generalize ofQ x y = v at HM ⊢
  generalize qn v = sg at HM ⊢
  generalize ql v = L at HM ⊢
  generalize qd v = M at HM ⊢
  generalize zm x = La at *
  generalize zm y = Lb at *
  generalize zn x = p at *
  generalize zn y = q at *
  go_enter Tryz.func82, Tryz.ntmps82
  go_wp2_with fail
  have kb := ba1 w (.cells z3 29)
  have P_o := heap_alloc_new w (.cells z3 29)
  generalize w.alloc (.cells z3 29) = W1 at kb P_o ⊢
  have hrr3 : w.heap.size ≤ w.heap.size := Nat.le_refl _
  refine (B1.out _).mono ?_
  rintro e W2 ⟨A1, c1, rfl, hc1, o1, hb⟩
  replace P_o := rblk_below P_o hb
  replace kb := bt kb hb
  clear hb
  go_wp2_with fail
  refine (B2.out _).mono ?_
  rintro e W3 ⟨A2, c2, rfl, hc2, o2, hb⟩
  replace P_o := rblk_below P_o hb
  replace o1 := o1.below hb
  replace kb := bt kb hb
  clear hb
  go_wp2_with fail
  have hltr := rblk_lt P_o
  refine (HM.out _ _ _ _ _ hc1 hc2 o1.rd o2.rd).mono ?_
  rintro e W4 ⟨A3, c3, D3, d3, rfl, hc3, hd3, o3, o4, hap3, hb⟩
  replace P_o := rblk_below P_o hb
  replace o1 := o1.below hb
  replace o2 := o2.below hb
  replace kb := bt kb hb
  clear hb
  have c_o0 := rblk_cell P_o 0
  have c_o1 := rblk_cell P_o 1
  have c_o2 := rblk_cell P_o 2
  have f_o0 := rblk_free P_o 0
  have f_o1 := rblk_free P_o 1
  have f_o2 := rblk_free P_o 2
  go_wp2
  exact bodyPost_ret (v := .agg (g3 sg A3 L.length c3 D3 M.length d3)) (by simp [results, Tryz.results82, go_sem, c_o0, c_o1, c_o2]) rfl ⟨A3, c3, D3, d3, rfl, hc3, hd3, (own_put3 o3 hltr _ _ _).more (Nat.le_trans hrr3 (Nat.le_of_lt hltr)), (own_put3 o4 hltr _ _ _).more (Nat.le_trans hrr3 (Nat.le_of_lt hltr)), hap3, below_put3 kb hrr3 _ _ _⟩
theorem spec_rof (x y : Int) (w : World) (h0 : -9223372036854775808 ≤ x ∧ x ≤ 9223372036854775807) (h1 : -9223372036854775808 ≤ y ∧ y ≤ 9223372036854775807) :
    Calls Tryz.prog 118 #[.int .i64 x, .int .i64 y] w (MadeR w.heap.size (qn (ofQ x y)) (ql (ofQ x y)) (qd (ofQ x y)) w) := by
  have B1 := Lib.hid (fun W => spec_bof x W h0.1 h0.2)
  have B2 := Lib.hid (fun W => spec_bof y W h1.1 h1.2)
  unfold MadeZ MadeB at B1 B2
  have lx := ln_word (show x.natAbs ≤ 9223372036854775808 by omega)
  have ly := ln_word (show y.natAbs ≤ 9223372036854775808 by omega)
  have HM := Lib.hid (fun W B e B' e' (hc1 : (zm x).length ≤ e) (hc2 : (zm y).length ≤ e') a b => spec_rmake (zn x) (zn y) (zm x) (zm y) B B' (zm x).length (zm y).length e e' W rfl rfl (by rw [zm_length]; omega) (by rw [zm_length]; omega) hc1 hc2 a b)
  rw [show makQ (zn x) (zm x) (zn y) (zm y) = ofQ x y from rfl] at HM
  clear lx ly h0 h1
  generalize ofQ x y = v at HM ⊢
  generalize qn v = sg at HM ⊢
  generalize ql v = L at HM ⊢
  generalize qd v = M at HM ⊢
  generalize zm x = La at *
  generalize zm y = Lb at *
  generalize zn x = p at *
  generalize zn y = q at *
  go_enter Tryz.func118, Tryz.ntmps118
  go_wp2_with fail
  have kb := ba1 w (.cells z3 29)
  have P_o := heap_alloc_new w (.cells z3 29)
  generalize w.alloc (.cells z3 29) = W1 at kb P_o ⊢
  have hrr3 : w.heap.size ≤ w.heap.size := Nat.le_refl _
  refine (B1.out _).mono ?_
  rintro e W2 ⟨A1, c1, rfl, hc1, o1, hb⟩
  replace P_o := rblk_below P_o hb
  replace kb := bt kb hb
  clear hb
  go_wp2_with fail
  refine (B2.out _).mono ?_
  rintro e W3 ⟨A2, c2, rfl, hc2, o2, hb⟩
  replace P_o := rblk_below P_o hb
  replace o1 := o1.below hb
  replace kb := bt kb hb
  clear hb
  go_wp2_with fail
  have hltr := rblk_lt P_o
  refine (HM.out _ _ _ _ _ hc1 hc2 o1.rd o2.rd).mono ?_
  rintro e W4 ⟨A3, c3, D3, d3, rfl, hc3, hd3, o3, o4, hap3, hb⟩
  replace P_o := rblk_below P_o hb
  replace o1 := o1.below hb
  replace o2 := o2.below hb
  replace kb := bt kb hb
  clear hb
  have c_o0 := rblk_cell P_o 0
  have c_o1 := rblk_cell P_o 1
  have c_o2 := rblk_cell P_o 2
  have f_o0 := rblk_free P_o 0
  have f_o1 := rblk_free P_o 1
  have f_o2 := rblk_free P_o 2
  go_wp2
  exact bodyPost_ret (v := .agg (g3 sg A3 L.length c3 D3 M.length d3)) (by simp [results, Tryz.results118, go_sem, c_o0, c_o1, c_o2]) rfl ⟨A3, c3, D3, d3, rfl, hc3, hd3, (own_put3 o3 hltr _ _ _).more (Nat.le_trans hrr3 (Nat.le_of_lt hltr)), (own_put3 o4 hltr _ _ _).more (Nat.le_trans hrr3 (Nat.le_of_lt hltr)), hap3, below_put3 kb hrr3 _ _ _⟩
end Go.Proofs.YtppdholccpgcpaaGreat
namespace Go.Proofs.YtppdholccpgcpaaGreat
set_option maxHeartbeats 2000000
open Go.ChangeShapes Go.WideShapes Go.ChangeAt Go.RowKit
set_option linter.unusedVariables false
set_option linter.unusedSimpArgs false
set_option maxRecDepth 4000
attribute [local go_sem ↓] Go.wp_at_zero Go.wp_at_succ
theorem impl_rfi (x : Int) (w : World) (h0 : -9223372036854775808 ≤ x ∧ x ≤ 9223372036854775807) :
    Calls Tryz.prog 22 #[.int .i64 x] w (MadeR w.heap.size (zn x) (zm x) (nd 1) w) := by
  have B1 := Lib.hid (fun W => impl_bof x W h0.1 h0.2)
  unfold MadeZ MadeB at B1
  have B2 := Lib.hid (fun W => show Calls Tryz.prog 80 #[.int .i64 1] W (MadeI W.heap.size (nd 1) W) from impl_natOf_int 1 W (by decide))
  generalize nd 1 = M at B2 ⊢
  generalize zm x = L at *
  generalize zn x = sg at *
  clear h0
  go_enter Tryz.func22, Tryz.ntmps22
  go_wp2_with fail
  have kb := ba1 w (.cells z3 29)
  have P_o := heap_alloc_new w (.cells z3 29)
  generalize w.alloc (.cells z3 29) = W1 at kb P_o ⊢
  have hlo := rblk_lt P_o
  refine (B1.out _).mono ?_
  rintro e W2 ⟨A1, c1, rfl, hc1, o1, hb⟩
  replace P_o := rblk_below P_o hb
  replace kb := bt kb hb
  clear hb
  go_wp2_with fail
  have hlp := rblk_lt P_o
  have i1 := o1.inR (vi_length L)
  refine (B2.out _).mono ?_
  rintro e W3 ⟨A2, c2, rfl, hc2, o2, hb⟩
  replace P_o := rblk_below P_o hb
  replace o1 := o1.below hb
  replace kb := bt kb hb
  clear hb
  have hap := i1.apart (o2.inR (vi_length M)) (.inl (Nat.le_refl _))
  have c_o0 := rblk_cell P_o 0
  have c_o1 := rblk_cell P_o 1
  have c_o2 := rblk_cell P_o 2
  have f_o0 := rblk_free P_o 0
  have f_o1 := rblk_free P_o 1
  have f_o2 := rblk_free P_o 2
  go_wp2
  exact bodyPost_ret (v := .agg (g3 sg A1 L.length c1 A2 M.length c2)) (by simp [results, Tryz.results22, go_sem, c_o0, c_o1, c_o2]) rfl ⟨A1, c1, A2, c2, rfl, hc1, hc2, (own_put3 o1 hlo _ _ _).more (Nat.le_of_lt hlo), (own_put3 o2 hlp _ _ _).more (Nat.le_of_lt hlp), hap, below_put3 kb (Nat.le_refl _) _ _ _⟩
theorem own_u {w : World} {g : Nat} {T : TypeId} {x : Int} (P : w.heap[g]? = some (.cells #[.int .i64 x] T (0, 0))) : OwnS g w (some ⟨g, 0, none⟩) (vi [x]) :=
  .inr ⟨g, rfl, Nat.le_refl _, rblk_lt P, fun j hj => by
    have hj' : j = 0 := by simp [vi] at hj; exact hj
    subst hj'
    rw [rblk_cell P 0]
    rfl, fun j hj => rblk_free P j⟩
theorem own_u3 {W : World} {g : Nat} {T : TypeId} {x : Int} (u0 u1 u2 : Value) : OwnS W.heap.size ((((W.setCell ⟨g, 0, none⟩ u0).setCell ⟨g, 1, none⟩ u1).setCell ⟨g, 2, none⟩ u2).alloc (.cells #[.int .i64 x] T)) (some ⟨W.heap.size, 0, none⟩) (vi [x]) := by
  have h := heap_alloc_new (((W.setCell ⟨g, 0, none⟩ u0).setCell ⟨g, 1, none⟩ u1).setCell ⟨g, 2, none⟩ u2) (.cells #[.int .i64 x] T)
  rw [put_size, put_size, put_size] at h
  exact own_u h
theorem spec_rfi (x : Int) (w : World) (h0 : -9223372036854775808 ≤ x ∧ x ≤ 9223372036854775807) :
    Calls Tryz.prog 119 #[.int .i64 x] w (MadeR w.heap.size (zn x) (zm x) (nd 1) w) := by
  have B1 := Lib.hid (fun W => spec_bof x W h0.1 h0.2)
  unfold MadeZ MadeB at B1
  rw [nd_one]
  generalize zm x = L at *
  generalize zn x = sg at *
  clear h0
  go_enter Tryz.func119, Tryz.ntmps119
  go_wp2_with fail
  have kb := ba1 w (.cells z3 29)
  have P_o := heap_alloc_new w (.cells z3 29)
  generalize w.alloc (.cells z3 29) = W1 at kb P_o ⊢
  have hlo := rblk_lt P_o
  refine (B1.out _).mono ?_
  rintro e W2 ⟨A1, c1, rfl, hc1, o1, hb⟩
  replace P_o := rblk_below P_o hb
  replace kb := bt kb hb
  clear hb
  have hlp := rblk_lt P_o
  have i1 := o1.inR (vi_length L)
  have d_o0 := rblk_cell P_o 0
  have d_o1 := rblk_cell P_o 1
  have d_o2 := rblk_cell P_o 2
  have e_o0 := rblk_free P_o 0
  have e_o1 := rblk_free P_o 1
  have e_o2 := rblk_free P_o 2
  have x0 : Hid (((((W2.setCell ⟨w.heap.size, 0, none⟩ (.bool sg)).setCell ⟨w.heap.size, 1, none⟩ (.slice A1 L.length c1)).setCell ⟨w.heap.size, 2, none⟩ (.slice (some ⟨W2.heap.size, 0, none⟩) 1 1)).alloc (.cells #[.int .i64 1] 3)).cell? ⟨w.heap.size, 0, none⟩ = some (.bool sg)) := Lib.hid (rblk_cell (rblk_below (rblk_set (rblk_set (rblk_set P_o 0 (.bool sg)) 1 (.slice A1 L.length c1)) 2 (.slice (some ⟨W2.heap.size, 0, none⟩) 1 1)) (ba1 _ (.cells #[.int .i64 1] 3))) 0)
  have x1 : Hid (((((W2.setCell ⟨w.heap.size, 0, none⟩ (.bool sg)).setCell ⟨w.heap.size, 1, none⟩ (.slice A1 L.length c1)).setCell ⟨w.heap.size, 2, none⟩ (.slice (some ⟨W2.heap.size, 0, none⟩) 1 1)).alloc (.cells #[.int .i64 1] 3)).cell? ⟨w.heap.size, 1, none⟩ = some (.slice A1 L.length c1)) := Lib.hid (rblk_cell (rblk_below (rblk_set (rblk_set (rblk_set P_o 0 (.bool sg)) 1 (.slice A1 L.length c1)) 2 (.slice (some ⟨W2.heap.size, 0, none⟩) 1 1)) (ba1 _ (.cells #[.int .i64 1] 3))) 1)
  have x2 : Hid (((((W2.setCell ⟨w.heap.size, 0, none⟩ (.bool sg)).setCell ⟨w.heap.size, 1, none⟩ (.slice A1 L.length c1)).setCell ⟨w.heap.size, 2, none⟩ (.slice (some ⟨W2.heap.size, 0, none⟩) 1 1)).alloc (.cells #[.int .i64 1] 3)).cell? ⟨w.heap.size, 2, none⟩ = some (.slice (some ⟨W2.heap.size, 0, none⟩) 1 1)) := Lib.hid (rblk_cell (rblk_below (rblk_set (rblk_set (rblk_set P_o 0 (.bool sg)) 1 (.slice A1 L.length c1)) 2 (.slice (some ⟨W2.heap.size, 0, none⟩) 1 1)) (ba1 _ (.cells #[.int .i64 1] 3))) 2)
  go_wp2
  exact bodyPost_ret (v := .agg #[.bool sg, .slice A1 L.length c1, .slice (some ⟨W2.heap.size, 0, none⟩) 1 1]) (by simp [results, Tryz.results119, go_sem, x0.out, x1.out, x2.out]) rfl ⟨A1, c1, some ⟨W2.heap.size, 0, none⟩, 1, rfl, hc1, Nat.le_refl _, ((own_put3 o1 hlo _ _ _).below (ba1 _ _)).more (Nat.le_of_lt hlo), (own_u3 _ _ _).more (Nat.le_of_lt hlp), i1.apart ((own_u3 (g := w.heap.size) (W := W2) (T := 3) (x := 1) (.bool false) (.bool false) (.bool false)).inR (n := 1) rfl) (.inl (Nat.le_refl _)), bt (below_put3 kb (Nat.le_refl _) _ _ _) (ba1 _ _)⟩
theorem eqSl_all (l m : List Int) (A D : Option Addr) (n n' c d : Nat) (w : World) (hl : l.length = n) (hm : m.length = n') (hn : n ≤ 4611686018427387904) (hn' : n' ≤ 4611686018427387904)
    (hA : RdS w A (vi l)) (hD : RdS w D (vi m)) :
    Calls Tryz.prog 76 #[.slice A n c, .slice D n' d] w fun e w' => e = .returned (.bool (decide (l = m))) ∧ Below w.heap.size w w' := by
  have HL := Lib.hid hl
  have HM := Lib.hid hm
  clear hl hm
  by_cases hne : n = n'
  · subst hne
    go_enter Tryz.func76, Tryz.ntmps76
    go_wp2
    go_loopw [13] (fun i w' => ∃ k : Nat, k ≤ n ∧ i = .int .i64 k ∧ AgI l m k ∧ Below w.heap.size w w') (fun i _ => n - (intOf i).toNat)
    case atStart => exact ⟨0, Nat.zero_le _, rfl, AgI.zero _ _, Below.refl _ _⟩
    case round =>
      obtain ⟨k, hk, rfl, hag0, hb⟩ := hrel
      have hag := Lib.hid hag0
      clear hag0
      by_cases hlt : k < n
      · have hs0 : l[k]? = some (l[k]'(by rw [HL.out]; exact hlt)) := List.getElem?_eq_getElem _
        have ht0 : m[k]? = some (m[k]'(by rw [HM.out]; exact hlt)) := List.getElem?_eq_getElem _
        obtain ⟨b1, o1, rfl, hb1, e1⟩ := (hA.below hb).int hs0
        obtain ⟨b2, o2, rfl, hb2, e2⟩ := (hD.below hb).int ht0
        have hi0 : (0 : Int) ≤ (k : Int) := by omega
        have hi1 : (k : Int) < (n : Int) := by omega
        generalize l[k]'(by rw [HL.out]; exact hlt) = s at e1 hs0
        generalize m[k]'(by rw [HM.out]; exact hlt) = t at e2 ht0
        have Hs := Lib.hid hs0
        have Ht := Lib.hid ht0
        clear hs0 ht0
        by_cases hst : s = t
        · subst hst
          go_wp2
          go_quiet (fail)
          go_wp2
          go_roundw
          case rel => exact ⟨k + 1, by omega, by go_num, hag.out.succ (by rw [Hs.out, Ht.out]), below_drewN hb _⟩
          case measure => simp [intOf]; omega
        · have q : (s != t) = true := by rw [bne_iff_ne]; exact hst
          have Hf : Hid (decide (l = m) = false) := by
            refine Lib.hid (decide_eq_false (fun h => hst ?_))
            have h1 := Hs.out
            rw [h, Ht.out] at h1
            injection h1 with h1
            exact h1.symm
          clear hst
          go_wp2
          go_quiet (fail)
          go_wp2
          go_ret
          exact ⟨ret_bool' (by rw [Hf.out]), below_drewN hb _⟩
      · obtain rfl : k = n := by omega
        have Hf : Hid (decide (l = m) = true) := by
          refine Lib.hid (decide_eq_true (AgI.all ?_ (by rw [HL.out, HM.out])))
          rw [HL.out]; exact hag.out
        go_wp2
        go_ret
        exact ⟨ret_bool' (by rw [Hf.out]), hb⟩
  · have Hf : Hid (decide (l = m) = false) := Lib.hid (decide_eq_false (fun h => hne (by rw [← HL.out, ← HM.out, h])))
    have q : ((n : Int) != (n' : Int)) = true := by rw [bne_iff_ne]; omega
    go_enter Tryz.func76, Tryz.ntmps76
    go_wp2
    go_ret
    exact ⟨ret_bool' (by rw [Hf.out]), Below.refl _ _⟩
theorem impl_req_p (pr ps : Bool) (l m l' m' : List Int) (A D A' D' : Option Addr) (n k n' k' c d c' d' : Nat) (w : World) (hl : l.length = n) (hm : m.length = k) (hl' : l'.length = n') (hm' : m'.length = k')
    (hn : n ≤ 4611686018427387904) (hk : k ≤ 4611686018427387904) (hn' : n' ≤ 4611686018427387904) (hk' : k' ≤ 4611686018427387904)
    (hA : RdS w A (vi l)) (hD : RdS w D (vi m)) (hA' : RdS w A' (vi l')) (hD' : RdS w D' (vi m')) (h1 : (pr == ps) = false) :
    Calls Tryz.prog 20 #[.agg (g3 pr A n c D k d), .agg (g3 ps A' n' c' D' k' d')] w fun e w' => e = .returned (.bool false) ∧ Below w.heap.size w w' := by
  clear hl hm hl' hm' hn hk hn' hk' hA hD hA' hD'
  go_enter Tryz.func20, Tryz.ntmps20
  go_wp2
  go_ret
  exact ⟨rfl, ba2 _ _ _⟩
theorem impl_req_l (pr ps : Bool) (l m l' m' : List Int) (A D A' D' : Option Addr) (n k n' k' c d c' d' : Nat) (w : World) (hl : l.length = n) (hm : m.length = k) (hl' : l'.length = n') (hm' : m'.length = k')
    (hn : n ≤ 4611686018427387904) (hk : k ≤ 4611686018427387904) (hn' : n' ≤ 4611686018427387904) (hk' : k' ≤ 4611686018427387904)
    (hA : RdS w A (vi l)) (hD : RdS w D (vi m)) (hA' : RdS w A' (vi l')) (hD' : RdS w D' (vi m')) (h1 : (pr == ps) = true) (h2 : decide (l = l') = false) :
    Calls Tryz.prog 20 #[.agg (g3 pr A n c D k d), .agg (g3 ps A' n' c' D' k' d')] w fun e w' => e = .returned (.bool false) ∧ Below w.heap.size w w' := by
  have E1 := Lib.hid (fun W a b => eqSl_all l l' A A' n n' c c' W hl hl' hn hn' a b)
  have E2 := Lib.hid (fun W a b => eqSl_all m m' D D' k k' d d' W hm hm' hk hk' a b)
  rw [h2] at E1
  have RR : Hid (∀ W, Below w.heap.size w W → RdS W A (vi l) ∧ RdS W D (vi m) ∧ RdS W A' (vi l') ∧ RdS W D' (vi m')) := Lib.hid (fun W hb => ⟨hA.below hb, hD.below hb, hA'.below hb, hD'.below hb⟩)
  clear E2 h2 hl hm hl' hm' hn hk hn' hk' hA hD hA' hD'
  go_enter Tryz.func20, Tryz.ntmps20
  go_wp2_with fail
  have kb := ba2 w (.cells (g3 pr A n c D k d) 29) (.cells (g3 ps A' n' c' D' k' d') 29)
  obtain ⟨P_r, P_s⟩ := blocks2 w (.cells (g3 pr A n c D k d) 29) (.cells (g3 ps A' n' c' D' k' d') 29)
  generalize (w.alloc (.cells (g3 pr A n c D k d) 29)).alloc (.cells (g3 ps A' n' c' D' k' d') 29) = W1 at kb P_r P_s ⊢
  refine (E1.out _ (RR.out _ kb).1 (RR.out _ kb).2.2.1).mono ?_
  rintro e W2 ⟨rfl, hb⟩
  replace P_r := rblk_below P_r hb
  replace P_s := rblk_below P_s hb
  replace kb := bt kb hb
  clear hb
  have c_r0 := rblk_cell P_r 0
  have c_r1 := rblk_cell P_r 1
  have c_r2 := rblk_cell P_r 2
  have c_s0 := rblk_cell P_s 0
  have c_s1 := rblk_cell P_s 1
  have c_s2 := rblk_cell P_s 2
  go_wp2
  go_ret
  exact ⟨rfl, kb⟩
theorem impl_req_m (pr ps : Bool) (l m l' m' : List Int) (A D A' D' : Option Addr) (n k n' k' c d c' d' : Nat) (w : World) (hl : l.length = n) (hm : m.length = k) (hl' : l'.length = n') (hm' : m'.length = k')
    (hn : n ≤ 4611686018427387904) (hk : k ≤ 4611686018427387904) (hn' : n' ≤ 4611686018427387904) (hk' : k' ≤ 4611686018427387904)
    (hA : RdS w A (vi l)) (hD : RdS w D (vi m)) (hA' : RdS w A' (vi l')) (hD' : RdS w D' (vi m')) (h1 : (pr == ps) = true) (h2 : decide (l = l') = true) :
    Calls Tryz.prog 20 #[.agg (g3 pr A n c D k d), .agg (g3 ps A' n' c' D' k' d')] w fun e w' => e = .returned (.bool (decide (m = m'))) ∧ Below w.heap.size w w' := by
  have E1 := Lib.hid (fun W a b => eqSl_all l l' A A' n n' c c' W hl hl' hn hn' a b)
  have E2 := Lib.hid (fun W a b => eqSl_all m m' D D' k k' d d' W hm hm' hk hk' a b)
  rw [h2] at E1
  have RR : Hid (∀ W, Below w.heap.size w W → RdS W A (vi l) ∧ RdS W D (vi m) ∧ RdS W A' (vi l') ∧ RdS W D' (vi m')) := Lib.hid (fun W hb => ⟨hA.below hb, hD.below hb, hA'.below hb, hD'.below hb⟩)
  clear h2 hl hm hl' hm' hn hk hn' hk' hA hD hA' hD'
  generalize decide (m = m') = v at E2 ⊢
  go_enter Tryz.func20, Tryz.ntmps20
  go_wp2_with fail
  have kb := ba2 w (.cells (g3 pr A n c D k d) 29) (.cells (g3 ps A' n' c' D' k' d') 29)
  obtain ⟨P_r, P_s⟩ := blocks2 w (.cells (g3 pr A n c D k d) 29) (.cells (g3 ps A' n' c' D' k' d') 29)
  generalize (w.alloc (.cells (g3 pr A n c D k d) 29)).alloc (.cells (g3 ps A' n' c' D' k' d') 29) = W1 at kb P_r P_s ⊢
  refine (E1.out _ (RR.out _ kb).1 (RR.out _ kb).2.2.1).mono ?_
  rintro e W2 ⟨rfl, hb⟩
  replace P_r := rblk_below P_r hb
  replace P_s := rblk_below P_s hb
  replace kb := bt kb hb
  clear hb
  have c_r0 := rblk_cell P_r 0
  have c_r1 := rblk_cell P_r 1
  have c_r2 := rblk_cell P_r 2
  have c_s0 := rblk_cell P_s 0
  have c_s1 := rblk_cell P_s 1
  have c_s2 := rblk_cell P_s 2
  go_wp2_with fail
  clear c_r0 c_r1 c_r2 c_s0 c_s1 c_s2
  refine (E2.out _ (RR.out _ kb).2.1 (RR.out _ kb).2.2.2).mono ?_
  rintro e W3 ⟨rfl, hb⟩
  replace P_r := rblk_below P_r hb
  replace P_s := rblk_below P_s hb
  replace kb := bt kb hb
  clear hb
  go_wp2
  go_ret
  exact ⟨rfl, kb⟩
theorem impl_req3 (pr ps : Bool) (l m l' m' : List Int) (A D A' D' : Option Addr) (n k n' k' c d c' d' : Nat) (w : World) (hl : l.length = n) (hm : m.length = k) (hl' : l'.length = n') (hm' : m'.length = k')
    (hn : n ≤ 4611686018427387904) (hk : k ≤ 4611686018427387904) (hn' : n' ≤ 4611686018427387904) (hk' : k' ≤ 4611686018427387904)
    (hA : RdS w A (vi l)) (hD : RdS w D (vi m)) (hA' : RdS w A' (vi l')) (hD' : RdS w D' (vi m')) :
    Calls Tryz.prog 20 #[.agg (g3 pr A n c D k d), .agg (g3 ps A' n' c' D' k' d')] w fun e w' => e = .returned (.bool (decide (pr = ps) && decide (l = l') && decide (m = m'))) ∧ Below w.heap.size w w' := by
  by_cases h1 : (pr == ps) = true
  · have h1' : decide (pr = ps) = true := by simpa using h1
    rw [h1', Bool.true_and]
    by_cases h2 : decide (l = l') = true
    · rw [h2, Bool.true_and]
      exact impl_req_m pr ps l m l' m' A D A' D' n k n' k' c d c' d' w hl hm hl' hm' hn hk hn' hk' hA hD hA' hD' h1 h2
    · have h2' : decide (l = l') = false := by simpa using h2
      rw [h2', Bool.false_and]
      exact impl_req_l pr ps l m l' m' A D A' D' n k n' k' c d c' d' w hl hm hl' hm' hn hk hn' hk' hA hD hA' hD' h1 h2'
  · have h1' : (pr == ps) = false := by simpa using h1
    have h1'' : decide (pr = ps) = false := by simpa using h1
    rw [h1'', Bool.false_and, Bool.false_and]
    exact impl_req_p pr ps l m l' m' A D A' D' n k n' k' c d c' d' w hl hm hl' hm' hn hk hn' hk' hA hD hA' hD' h1'
theorem impl_req (pr ps : Bool) (l m l' m' : List Int) (A D A' D' : Option Addr) (n k n' k' c d c' d' : Nat) (w : World) (hl : l.length = n) (hm : m.length = k) (hl' : l'.length = n') (hm' : m'.length = k')
    (hn : n ≤ 4611686018427387904) (hk : k ≤ 4611686018427387904) (hn' : n' ≤ 4611686018427387904) (hk' : k' ≤ 4611686018427387904) (hx : n = 0 ∨ ∃ g, A' = some ⟨g, 0, none⟩) (hy : k = 0 ∨ ∃ g, D' = some ⟨g, 0, none⟩)
    (hA : RdS w A (vi l)) (hD : RdS w D (vi m)) (hA' : RdS w A' (vi l')) (hD' : RdS w D' (vi m')) :
    Calls Tryz.prog 20 #[.agg (g3 pr A n c D k d), .agg (g3 ps A' n' c' D' k' d')] w fun e w' => e = .returned (.bool (decide (pr = ps) && decide (l = l') && decide (m = m'))) ∧ Below w.heap.size w w' :=
  impl_req3 pr ps l m l' m' A D A' D' n k n' k' c d c' d' w hl hm hl' hm' hn hk hn' hk' hA hD hA' hD'
end Go.Proofs.YtppdholccpgcpaaGreat
