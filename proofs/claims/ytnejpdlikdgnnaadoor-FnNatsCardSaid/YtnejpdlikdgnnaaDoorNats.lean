/-
  'FnNats': a number is read back from its text, and the quotient, the remainder and the greatest common divisor satisfy their laws.
-/
import Derived.Test.YtnejpdlikdgnnaaDoorMkNat
import Derived.Test.YtnejpdlikdgnnaaDoorRound
import Derived.Test.YtnejpdlikdgnnaaDoorGcdL
import Derived.Test.YtnejpdlikdgnnaaDoorDivN
namespace Go.Proofs.YtnejpdlikdgnnaaDoor
open Go.ChangeShapes Go.WideShapes Go.ChangeAt Go.RowKit
open Go.ChangeMaps (open_string shut_string)
set_option linter.unusedVariables false
set_option linter.unusedSimpArgs false
set_option maxRecDepth 4000

theorem RdB.belowB {w w' : World} {A : Option Addr} {n : Nat} (h : RdB w A n w.heap.size) (hb : Below w.heap.size w w') : RdB w' A n w'.heap.size := by
  rcases h with h0 | ⟨b, off, ha, hbg, hblt, hcs⟩
  · exact .inl h0
  · have := hb.size
    refine .inr ⟨b, off, ha, by omega, by omega, fun j hj => ?_⟩
    obtain ⟨u, hu, hcu⟩ := hcs j hj
    exact ⟨u, hu, by rw [hb.cell (p := ⟨b, off + j, none⟩) hblt]; exact hcu⟩
theorem six_nd (v : Nat) (h3 : ln v ≤ 3) : ∃ b, nd v ++ [6] = nd b ∧ ln b = ln v + 1 ∧ 0 < b := by
  have hl : (nd v ++ [6]).length = ln v + 1 := by rw [List.length_append, nd_length]; rfl
  have hk : ok (nd v ++ [6]) = true := by
    have h := ok_end (l := nd v ++ [6]) (x := 6) (by omega) (fun j x hj hx => by
      rcases Nat.lt_or_ge j (ln v) with h1 | h1
      · rw [List.getElem?_append_left (by rw [nd_length]; exact h1), nd_get h1] at hx
        injection hx with hx
        subst hx
        exact ⟨dgt_nonneg _ _, dgt_lt _ _⟩
      · obtain rfl : j = ln v := by omega
        rw [List.getElem?_append_right (by rw [nd_length]; exact Nat.le_refl _), nd_length, Nat.sub_self] at hx
        injection hx with hx
        omega) (by rw [hl, Nat.add_sub_cancel, List.getElem?_append_right (by rw [nd_length]; exact Nat.le_refl _), nd_length, Nat.sub_self]; rfl)
    rw [h]
    rfl
  obtain ⟨b, hb, _⟩ := ok_nd hk
  have hlb : ln b = ln v + 1 := by rw [← nd_length, ← hb, hl]
  refine ⟨b, hb, hlb, ?_⟩
  rcases Nat.eq_zero_or_pos b with h | h
  · subst h; rw [ln_zero] at hlb; omega
  · exact h
theorem fmtL_le (a : Nat) (h : ln a ≤ 60) : (fmtN a).length ≤ 1048576 := by
  unfold fmtN
  split
  · simp
  · have := ftx_len a (ln a) (ln a - 1)
    omega
theorem cmpL_nd {a b : Nat} (ha : ln a ≤ 60) (hb : ln b ≤ 60) : cmpL (nd a) (nd b) = cmpN a b := by
  unfold cmpL
  rw [nd_ok ha, nd_ok hb, val_nd, val_nd]
  rfl

set_option maxHeartbeats 1600000 in
theorem law_nats (A : Option Addr) (n c : Nat) (w : World) (hn : n ≤ 9223372036854775807) (hA : RdB w A n w.heap.size) (htab : Lib.TabIs Tryd.prog w "internal/strconv.uint64pow10" .u64 Lib.pow10Tab) :
    Calls Tryd.prog 3 #[.slice A n c] w fun e w' => e = .returned (.bool true) ∧ Below w.heap.size w w' := by
  by_cases hg : n ≤ 1048576
  · have hg' : ¬ (1048576 : Int) < (n : Int) := by omega
    have HM := Lib.hid (fun k y W hy hk (h : RdB W A n W.heap.size) => makeNat_any k y hy A n c W hk hg h)
    have HA := Lib.hid (fun W (hb : Below w.heap.size w W) => hA.belowB hb)
    have HT := Lib.hid (fun W (hb : Below w.heap.size w W) => tab_below hb htab)
    clear hA htab
    go_enter Tryd.func3, Tryd.ntmps3
    go_wp2_with fail
    refine (HM.out 0 _ _ rfl (by omega) (HA.out _ (Below.refl _ _))).mono ?_
    rintro e w1 ⟨⟨a, A1, c1, h3a, rfl, ho1⟩, hb1⟩
    have own1 := OwnS.of_own ho1
    clear ho1
    go_wp2_with fail
    refine (HM.out 1 _ _ rfl (by omega) (HA.out _ hb1)).mono ?_
    rintro e w2 ⟨⟨v, A2, c2, h3v, rfl, ho2⟩, hb2⟩
    have hsz2 := hb2.size
    have hv60 : ln v ≤ 1099511627776 := by omega
    go_wp2_with (at_builtin; refine append_int rfl (.tmp 15) (.tmp 16) rfl w1.heap.size (ln v) _ (nd v) 6 w2 rfl rfl ho2 hv60 hsz2 ?_; intro v' w3 hown3 hb3 hs3; refine cut_here ?_)
    obtain ⟨b, hb, hlb, hb0⟩ := six_nd v h3v
    rw [hb] at hown3
    obtain ⟨A3, c3, hv3, hcc3, _, _⟩ := own_len hown3
    have own3 := OwnS.of_own (A := A3) (n := ln v + 1) (c := c3) (by rw [← hv3]; exact hown3)
    subst hv3
    have hb13 : Below w1.heap.size w1 w3 := hb2.trans hb3
    have RA := own1.below hb13
    have kb := bt hb1 hb13
    clear own1 hown3 ho2 hb1 hb2 hb3 hb13
    obtain ⟨nb, hnb⟩ : ∃ k, k = ln v + 1 := ⟨_, rfl⟩
    rw [← hnb] at hlb hcc3 ⊢
    obtain ⟨na, hna⟩ : ∃ k, k = ln a := ⟨_, rfl⟩
    rw [← hna] at h3a ⊢
    have hna' := hna.symm
    have hq60 : ln (a / b) ≤ 3 := by have := ln_mono (Nat.div_le_self a b); omega
    have hrb : a % b < b := Nat.mod_lt _ hb0
    have hr60 : ln (a % b) ≤ 4 := by have := ln_mono (Nat.le_of_lt hrb); omega
    have hpa : a / b * b ≤ a := Nat.div_mul_le_self a b
    have hp60 : ln (a / b * b) ≤ 3 := by have := ln_mono hpa; omega
    have hsum : a / b * b + a % b = a := by have := Nat.div_add_mod a b; rw [Nat.mul_comm] at this; exact this
    have hgl : Nat.gcd a b ≤ b := Nat.le_of_dvd hb0 (Nat.gcd_dvd_right a b)
    have hg60 : ln (Nat.gcd a b) ≤ 4 := by have := ln_mono hgl; omega
    have hda := nd_length a
    have hdb := nd_length b
    have HDv := Lib.hid (fun W h h' => impl_div a b A1 A3 na c1 nb c3 W hna' hlb (by omega) (by omega) (by omega) h h')
    have HF := Lib.hid (fun W h ht => impl_fmtNat (nd a) A1 na c1 W (by omega) (by omega) h ht)
    have hfl : fmtL (nd a) = fmtN a := by unfold fmtL; rw [nd_ok (by omega), val_nd]; rfl
    rw [hfl] at HF
    obtain ⟨r1, r2⟩ := round_nat (a := a) (by omega)
    have hsl : (⟨(fmtN a).toArray⟩ : ByteArray).size ≤ 1048576 := by
      have := fmtL_le a (by omega)
      simpa [ByteArray.size] using this
    have HP := Lib.hid (fun W => impl_prs ⟨(fmtN a).toArray⟩ W hsl)
    rw [r1, r2] at HP
    have HC1 := Lib.hid (fun W A' c' h h' => impl_natCmp (nd a) (nd a) A' A1 (nd a).length c' na c1 W rfl (by omega) (by omega) (by omega) h h')
    rw [cmpL_nd (by omega) (by omega), cmpN_eq rfl] at HC1
    have HMu := Lib.hid (fun W A' c' h h' => impl_mul (a / b) b A' A3 (nd (a / b)).length c' nb c3 W (by rw [nd_length]) hlb (by rw [nd_length]; omega) (by omega) h h')
    rw [show cap60 (a / b * b) = nd (a / b * b) from if_pos (by omega)] at HMu
    have HAd := Lib.hid (fun W A' c' A'' c'' h h' => impl_add (a / b * b) (a % b) A' A'' (nd (a / b * b)).length c' (nd (a % b)).length c'' W (by rw [nd_length]) (by rw [nd_length]) (by rw [nd_length]; omega) (by rw [nd_length]; omega) h h')
    rw [hsum, show cap60 a = nd a from if_pos (by omega)] at HAd
    have HC2 := Lib.hid (fun W A'' c'' h h' => impl_natCmp (nd (a % b)) (nd b) A'' A3 (nd (a % b)).length c'' nb c3 W rfl (by omega) (by rw [nd_length]; omega) (by omega) h h')
    rw [cmpL_nd (by omega) (by omega), cmpN_lt hrb] at HC2
    have HG1 := Lib.hid (fun W h h' => impl_gcdL (nd a) (nd b) A1 A3 na c1 nb c3 W (by omega) (by omega) (by omega) (by omega) h h')
    have HG2 := Lib.hid (fun W h h' => impl_gcdL (nd b) (nd a) A3 A1 nb c3 na c1 W (by omega) (by omega) (by omega) (by omega) h h')
    have hg1 : binL gcdF (nd a) (nd b) = nd (Nat.gcd a b) := by unfold binL; rw [nd_ok (by omega), nd_ok (by omega), val_nd, val_nd]; rfl
    have hg2 : binL gcdF (nd b) (nd a) = nd (Nat.gcd a b) := by unfold binL; rw [nd_ok (by omega), nd_ok (by omega), val_nd, val_nd, Nat.gcd_comm]; rfl
    rw [hg1] at HG1
    rw [hg2] at HG2
    have HC3 := Lib.hid (fun W A' c' A'' c'' h h' => impl_natCmp (nd (Nat.gcd a b)) (nd (Nat.gcd a b)) A' A'' (nd (Nat.gcd a b)).length c' (nd (Nat.gcd a b)).length c'' W rfl rfl (by rw [nd_length]; omega) (by rw [nd_length]; omega) h h')
    rw [cmpL_nd (by omega) (by omega), cmpN_eq rfl] at HC3
    have RA' := RA.rd
    have RB' := own3.rd
    clear hg1 hg2 hda hdb hfl r1 r2 hsl hsum hpa hgl hrb hq60 hr60 hp60 hg60 hna hna' hlb hcc3 RA own3 hb hnb h3v hv60
    generalize (⟨(fmtN a).toArray⟩ : ByteArray) = st at HF HP
    generalize nd (Nat.gcd a b) = G at HG1 HG2 HC3
    generalize nd (a / b * b) = P at HMu HAd
    generalize nd (a / b) = Q at HDv HMu
    generalize nd (a % b) = R at HDv HAd HC2
    generalize nd a = La at HDv HF HP HC1 HAd HG1 HG2 RA'
    generalize nd b = Lb at HDv HMu HC2 HG1 HG2 RB'
    have HR : Hid (∀ W, Below w3.heap.size w3 W → RdS W A1 (vi La) ∧ RdS W A3 (vi Lb)) := Lib.hid (fun W hb => ⟨RA'.below hb, RB'.below hb⟩)
    have HK := Lib.hid kb
    clear RA' RB' kb
    refine Cut.of ?_
    go_wp2_with fail
    refine (HDv.out _ (HR.out _ (Below.refl _ _)).1 (HR.out _ (Below.refl _ _)).2).mono ?_
    rintro e w4 ⟨AQ, cQ, AR, cR, rfl, -, -, oQ, oR, k4, -⟩
    go_wp2_with fail
    refine (HF.out _ (HR.out _ k4).1 (HT.out _ (bt HK.out k4))).mono ?_
    rintro e w5 ⟨rfl, hb5⟩
    have k5 := bt k4 hb5
    replace oQ := oQ.below hb5
    replace oR := oR.below hb5
    go_wp2_with fail
    refine (HP.out _).mono ?_
    rintro e w6 ⟨AX, cX, rfl, -, oX, hb6⟩
    have k6 := bt k5 hb6
    replace oQ := oQ.below hb6
    replace oR := oR.below hb6
    go_wp2_with fail
    refine (HC1.out _ _ _ oX.rd (HR.out _ k6).1).mono ?_
    rintro e w7 ⟨rfl, hb7⟩
    have k7 := bt k6 hb7
    replace oQ := oQ.below hb7
    replace oR := oR.below hb7
    go_wp2_with fail
    refine (HMu.out _ _ _ oQ.rd (HR.out _ k7).2).mono ?_
    rintro e w8 ⟨AP, cP, rfl, -, oP, hb8⟩
    have k8 := bt k7 hb8
    replace oR := oR.below hb8
    go_wp2_with fail
    refine (HAd.out _ _ _ _ _ oP.rd oR.rd).mono ?_
    rintro e w9 ⟨AS, cS, rfl, -, oS, hb9⟩
    have k9 := bt k8 hb9
    replace oR := oR.below hb9
    go_wp2_with fail
    refine (HC1.out _ _ _ oS.rd (HR.out _ k9).1).mono ?_
    rintro e w10 ⟨rfl, hb10⟩
    have k10 := bt k9 hb10
    replace oR := oR.below hb10
    go_wp2_with fail
    refine (HC2.out _ _ _ oR.rd (HR.out _ k10).2).mono ?_
    rintro e w11 ⟨rfl, hb11⟩
    have k11 := bt k10 hb11
    go_wp2_with fail
    refine (HG1.out _ (HR.out _ k11).1 (HR.out _ k11).2).mono ?_
    rintro e w12 ⟨AG, cG, rfl, oG, hb12⟩
    have k12 := bt k11 hb12
    go_wp2_with fail
    refine (HG2.out _ (HR.out _ k12).2 (HR.out _ k12).1).mono ?_
    rintro e w13 ⟨AG', cG', rfl, oG', hb13⟩
    have k13 := bt k12 hb13
    replace oG := oG.below hb13
    go_wp2_with fail
    refine (HC3.out _ _ _ _ _ oG.rd oG'.rd).mono ?_
    rintro e w14 ⟨rfl, hb14⟩
    have k14 := bt k13 hb14
    go_wp2_with fail
    go_ret
    exact ⟨rfl, bt HK.out k14⟩
  · have hg' : (1048576 : Int) < (n : Int) := by omega
    go_enter Tryd.func3, Tryd.ntmps3
    go_wp2
    go_ret
    exact ⟨rfl, Below.refl _ _⟩
end Go.Proofs.YtnejpdlikdgnnaaDoor
