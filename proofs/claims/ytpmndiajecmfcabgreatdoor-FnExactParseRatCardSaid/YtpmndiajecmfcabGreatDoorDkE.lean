/-
  'FormatBigInt', of the model and of the program.
-/
import Derived.Test.YtpmndiajecmfcabGreatDoorDkD
import Derived.Test.YtpmndiajecmfcabGreatDoorDkC
import Derived.Test.YtpmndiajecmfcabGreatDoorDkB
import Derived.Deep.RegionHeld3
import Derived.Deep.DrawnRows
import Derived.Deep.DeepCutAuto
namespace Go.Proofs.YtpmndiajecmfcabGreatDoor
open Go.ChangeShapes Go.WideShapes Go.ChangeAt Go.RowKit
open Go.ChangeMaps (open_string shut_string)
set_option linter.unusedVariables false
set_option linter.unusedSimpArgs false
set_option maxRecDepth 4000

/-- The text. -/
def fmtB (p : Bool) (l : List Int) : List UInt8 := if okB p l then (if p then 45 :: fmtL l else fmtL l) else []
theorem fmtL_len (l : List Int) : (fmtL l).length ≤ 1048576 := by
  unfold fmtL
  by_cases h : ok l = true
  · rw [if_pos h]
    obtain ⟨v, rfl, hv⟩ := ok_nd h
    rw [val_nd]
    unfold fmtN
    split
    · simp
    · have := ftx_len v (ln v) (ln v - 1)
      omega
  · rw [if_neg h]; simp

set_option maxHeartbeats 800000 in
theorem spec_fmtB_yes (p : Bool) (l : List Int) (A : Option Addr) (n c : Nat) (w : World) (hl : l.length = n) (hn : n ≤ 9223372036854775807) (hk : okB p l = true) (hA : RdS w A (vi l)) :
    Calls Tryz.prog 54 #[.agg #[.bool p, .slice A n c]] w fun e w' => e = .returned (.string ⟨(if p then 45 :: fmtL l else fmtL l).toArray⟩) ∧ Below w.heap.size w w' := by
  have H1 := Lib.hid (fun W h => spec_bok p l A n c W hl hn h)
  have H2 := Lib.hid (fun W h => spec_fmtNat l A n c W hl hn h)
  have HR : Hid (∀ W, Below w.heap.size w W → RdS W A (vi l)) := Lib.hid (fun W hb => hA.below hb)
  have hlen := fmtL_len l
  rw [hk] at H1
  clear hk hl hA
  generalize fmtL l = T at H2 hlen ⊢
  cases p
  · go_enter Tryz.func54, Tryz.ntmps54
    go_wp2_with fail
    have k0 := box0 w 24 (.bool false) (.slice A n c)
    have k1 := box1 w 24 (.bool false) (.slice A n c)
    have kb := ba1 w (.cells #[.bool false, .slice A n c] 24)
    generalize w.alloc (.cells #[.bool false, .slice A n c] 24) = W1 at k0 k1 kb ⊢
    refine (H1.out _ (HR.out _ kb)).mono ?_
    rintro e w4 ⟨rfl, hb4⟩
    replace k0 := cell_kept k0 hb4
    replace k1 := cell_kept k1 hb4
    replace kb := bt kb hb4
    clear hb4
    go_wp2_with fail
    refine (H2.out _ (HR.out _ kb)).mono ?_
    rintro e w5 ⟨rfl, hb5⟩
    replace kb := bt kb hb5
    go_wp2
    go_ret
    exact ⟨rfl, kb⟩
  · go_enter Tryz.func54, Tryz.ntmps54
    go_wp2_with fail
    have k0 := box0 w 24 (.bool true) (.slice A n c)
    have k1 := box1 w 24 (.bool true) (.slice A n c)
    have kb := ba1 w (.cells #[.bool true, .slice A n c] 24)
    generalize w.alloc (.cells #[.bool true, .slice A n c] 24) = W1 at k0 k1 kb ⊢
    refine (H1.out _ (HR.out _ kb)).mono ?_
    rintro e w4 ⟨rfl, hb4⟩
    replace k0 := cell_kept k0 hb4
    replace k1 := cell_kept k1 hb4
    replace kb := bt kb hb4
    clear hb4
    go_wp2_with fail
    refine (H2.out _ (HR.out _ kb)).mono ?_
    rintro e w5 ⟨rfl, hb5⟩
    replace kb := bt kb hb5
    go_wp2
    go_ret
    exact ⟨by rw [ByteArray.mk_append_mk]; simp, kb⟩

set_option maxHeartbeats 800000 in
theorem impl_fmtB_yes (p : Bool) (l : List Int) (A : Option Addr) (n c : Nat) (w : World) (hl : l.length = n) (hn : n ≤ 9223372036854775807) (hk : okB p l = true) (hA : RdS w A (vi l)) (htab : Lib.TabIs Tryz.prog w "internal/strconv.uint64pow10" .u64 Lib.pow10Tab) :
    Calls Tryz.prog 38 #[.agg #[.bool p, .slice A n c]] w fun e w' => e = .returned (.string ⟨(if p then 45 :: fmtL l else fmtL l).toArray⟩) ∧ Below w.heap.size w w' := by
  have H1 := Lib.hid (fun W h => impl_bok p l A n c W hl hn h)
  have H2 := Lib.hid (fun W h ht => impl_fmtNat l A n c W hl hn h ht)
  have HR : Hid (∀ W, Below w.heap.size w W → RdS W A (vi l) ∧ Lib.TabIs Tryz.prog W "internal/strconv.uint64pow10" .u64 Lib.pow10Tab) := Lib.hid (fun W hb => ⟨hA.below hb, tab_below hb htab⟩)
  have hlen := fmtL_len l
  rw [hk] at H1
  clear hk hl hA htab
  generalize fmtL l = T at H2 hlen ⊢
  have HJ := Lib.hid (fun bk W h0 h1 h2 => joinParts_two [45] T bk 2 W h0 h1 h2 (Nat.le_refl _) (by simp; omega))
  cases p
  · go_enter Tryz.func38, Tryz.ntmps38
    go_wp2_with fail
    have k0 := box0 w 24 (.bool false) (.slice A n c)
    have k1 := box1 w 24 (.bool false) (.slice A n c)
    have kb := ba1 w (.cells #[.bool false, .slice A n c] 24)
    generalize w.alloc (.cells #[.bool false, .slice A n c] 24) = W1 at k0 k1 kb ⊢
    refine (H1.out _ (HR.out _ kb).1).mono ?_
    rintro e w4 ⟨rfl, hb4⟩
    replace k0 := cell_kept k0 hb4
    replace k1 := cell_kept k1 hb4
    replace kb := bt kb hb4
    clear hb4
    go_wp2_with fail
    refine (H2.out _ (HR.out _ kb).1 (HR.out _ kb).2).mono ?_
    rintro e w5 ⟨rfl, hb5⟩
    replace k0 := cell_kept k0 hb5
    replace kb := bt kb hb5
    clear hb5
    go_wp2
    go_ret
    exact ⟨rfl, kb⟩
  · go_enter Tryz.func38, Tryz.ntmps38
    go_wp2_with fail
    have k0 := box0 w 24 (.bool true) (.slice A n c)
    have k1 := box1 w 24 (.bool true) (.slice A n c)
    have kb := ba1 w (.cells #[.bool true, .slice A n c] 24)
    generalize w.alloc (.cells #[.bool true, .slice A n c] 24) = W1 at k0 k1 kb ⊢
    refine (H1.out _ (HR.out _ kb).1).mono ?_
    rintro e w4 ⟨rfl, hb4⟩
    replace k0 := cell_kept k0 hb4
    replace k1 := cell_kept k1 hb4
    replace kb := bt kb hb4
    clear hb4
    go_wp2_with fail
    refine (H2.out _ (HR.out _ kb).1 (HR.out _ kb).2).mono ?_
    rintro e w5 ⟨rfl, hb5⟩
    replace k0 := cell_kept k0 hb5
    replace kb := bt kb hb5
    clear hb5
    go_wp2_with fail
    refine (HJ.out _ _ (box0 w5 9 _ _) (box1 w5 9 _ _) (by simp)).mono ?_
    rintro e w6 ⟨rfl, hb6⟩
    replace kb := kb.trans (((ba1 _ _).trans (hb6.mono (by rw [sz1]; omega))).mono kb.size)
    go_wp2
    go_ret
    exact ⟨rfl, kb⟩
theorem fmtB_no {p : Bool} {l : List Int} (h : okB p l = false) : fmtB p l = [] := by unfold fmtB; rw [h]; rfl
theorem fmtB_yes {p : Bool} {l : List Int} (h : okB p l = true) : fmtB p l = if p then 45 :: fmtL l else fmtL l := by unfold fmtB; rw [h]; rfl

set_option maxHeartbeats 800000 in
theorem spec_fmtB (p : Bool) (l : List Int) (A : Option Addr) (n c : Nat) (w : World) (hl : l.length = n) (hn : n ≤ 9223372036854775807) (hA : RdS w A (vi l)) :
    Calls Tryz.prog 54 #[.agg #[.bool p, .slice A n c]] w fun e w' => e = .returned (.string ⟨(fmtB p l).toArray⟩) ∧ Below w.heap.size w w' := by
  by_cases hk : okB p l = true
  · rw [fmtB_yes hk]
    exact spec_fmtB_yes p l A n c w hl hn hk hA
  · have hk' : okB p l = false := by simpa using hk
    rw [fmtB_no hk']
    have H1 := Lib.hid (fun W h => spec_bok p l A n c W hl hn h)
    rw [hk'] at H1
    clear hk hk' hl
    go_enter Tryz.func54, Tryz.ntmps54
    go_wp2_with fail
    refine (H1.out _ (hA.below (ba1 _ _))).mono ?_
    rintro e w4 ⟨rfl, hb4⟩
    have kb := (ba1 _ _).trans (hb4.mono (by rw [sz1]; omega))
    go_wp2
    go_ret
    exact ⟨rfl, kb⟩
set_option maxHeartbeats 800000 in
theorem impl_fmtB (p : Bool) (l : List Int) (A : Option Addr) (n c : Nat) (w : World) (hl : l.length = n) (hn : n ≤ 9223372036854775807) (hA : RdS w A (vi l)) (htab : Lib.TabIs Tryz.prog w "internal/strconv.uint64pow10" .u64 Lib.pow10Tab) :
    Calls Tryz.prog 38 #[.agg #[.bool p, .slice A n c]] w fun e w' => e = .returned (.string ⟨(fmtB p l).toArray⟩) ∧ Below w.heap.size w w' := by
  by_cases hk : okB p l = true
  · rw [fmtB_yes hk]
    exact impl_fmtB_yes p l A n c w hl hn hk hA htab
  · have hk' : okB p l = false := by simpa using hk
    rw [fmtB_no hk']
    have H1 := Lib.hid (fun W h => impl_bok p l A n c W hl hn h)
    rw [hk'] at H1
    clear hk hk' hl
    go_enter Tryz.func38, Tryz.ntmps38
    go_wp2_with fail
    refine (H1.out _ (hA.below (ba1 _ _))).mono ?_
    rintro e w4 ⟨rfl, hb4⟩
    have kb := (ba1 _ _).trans (hb4.mono (by rw [sz1]; omega))
    go_wp2
    go_ret
    exact ⟨rfl, kb⟩
end Go.Proofs.YtpmndiajecmfcabGreatDoor

namespace Go.Proofs.YtpmndiajecmfcabGreatDoor
open Go.ChangeShapes Go.WideShapes Go.ChangeAt Go.RowKit
open Go.ChangeMaps (open_string shut_string)
set_option linter.unusedVariables false
set_option linter.unusedSimpArgs false
set_option maxRecDepth 4000

set_option maxHeartbeats 400000 in
theorem one_any (l : List Int) (A : Option Addr) (n c : Nat) (w : World) (hl : l.length = n) (hn : n ≤ 9223372036854775807) (hA : RdS w A (vi l)) :
    Calls Tryz.prog 53 #[.slice A n c] w fun e w' => e = .returned (.bool (decide (l = [1]))) ∧ Below w.heap.size w w' := by
  by_cases h1 : n = 1
  · subst h1
    obtain ⟨x, rfl⟩ : ∃ x, l = [x] := by
      match l, hl with
      | [x], _ => exact ⟨x, rfl⟩
    obtain ⟨b1, o1, rfl, hb1, e1⟩ := hA.int (k := 0) (x := x) rfl
    rw [Nat.add_zero] at e1
    clear hA
    have hq : decide ([x] = [1]) = (x == 1) := by by_cases h : x = 1 <;> simp [h]
    rw [hq]
    go_enter Tryz.func53, Tryz.ntmps53
    go_wp2
    go_ret
    exact ⟨rfl, Below.refl _ _⟩
  · have hq : decide (l = [1]) = false := decide_eq_false (fun h => h1 (by rw [← hl, h]; rfl))
    rw [hq]
    have hz : ((n : Int) == 1) = false := by rw [beq_eq_false_iff_ne]; omega
    clear hA hl
    go_enter Tryz.func53, Tryz.ntmps53
    go_wp2
    go_ret
    exact ⟨rfl, Below.refl _ _⟩

set_option maxHeartbeats 1000000 in
theorem rok_b (p : Bool) (l m : List Int) (A D : Option Addr) (n c k d : Nat) (w : World) (hl : l.length = n) (hm : m.length = k) (hn : n ≤ 9223372036854775807) (hk : k ≤ 9223372036854775807) (hb : okB p l = false) (hA : RdS w A (vi l)) (hD : RdS w D (vi m)) :
    Calls Tryz.prog 52 #[.agg #[.bool p, .slice A n c, .slice D k d]] w fun e w' => e = .returned (.bool (false)) ∧ Below w.heap.size w w' := by
  have HB := Lib.hid (fun W h => spec_bok p l A n c W hl hn h)
  rw [hb] at HB
  clear hl hm hb
  go_enter Tryz.func52, Tryz.ntmps52
  go_wp2_with fail
  have kb := ba1 w (.cells #[.bool p, .slice A n c, .slice D k d] 26)
  have P := heap_alloc_new w (.cells #[.bool p, .slice A n c, .slice D k d] 26)
  generalize w.alloc (.cells #[.bool p, .slice A n c, .slice D k d] 26) = W1 at kb P ⊢
  have p0 : W1.cell? ⟨w.heap.size, 0, none⟩ = some (.bool p) := rblk_cell P 0
  have p1 : W1.cell? ⟨w.heap.size, 1, none⟩ = some (.slice A n c) := rblk_cell P 1
  refine (HB.out _ (hA.below kb)).mono ?_
  rintro e W2 ⟨rfl, hb⟩
  clear p0 p1
  replace P := rblk_below P hb
  replace kb := bt kb hb
  clear hb
  have p1 : W2.cell? ⟨w.heap.size, 1, none⟩ = some (.slice A n c) := rblk_cell P 1
  have p2 : W2.cell? ⟨w.heap.size, 2, none⟩ = some (.slice D k d) := rblk_cell P 2
  go_wp2
  go_ret
  exact ⟨rfl, kb⟩

set_option maxHeartbeats 1000000 in
theorem rok_o (p : Bool) (l m : List Int) (A D : Option Addr) (n c k d : Nat) (w : World) (hl : l.length = n) (hm : m.length = k) (hn : n ≤ 9223372036854775807) (hk : k ≤ 9223372036854775807) (hb : okB p l = true) (ho : ok m = false) (hA : RdS w A (vi l)) (hD : RdS w D (vi m)) :
    Calls Tryz.prog 52 #[.agg #[.bool p, .slice A n c, .slice D k d]] w fun e w' => e = .returned (.bool (false)) ∧ Below w.heap.size w w' := by
  have HB := Lib.hid (fun W h => spec_bok p l A n c W hl hn h)
  have HO := Lib.hid (fun W h => spec_ok m D k d W hm hk h)
  rw [hb] at HB
  rw [ho] at HO
  clear hl hm hb ho
  go_enter Tryz.func52, Tryz.ntmps52
  go_wp2_with fail
  have kb := ba1 w (.cells #[.bool p, .slice A n c, .slice D k d] 26)
  have P := heap_alloc_new w (.cells #[.bool p, .slice A n c, .slice D k d] 26)
  generalize w.alloc (.cells #[.bool p, .slice A n c, .slice D k d] 26) = W1 at kb P ⊢
  have p0 : W1.cell? ⟨w.heap.size, 0, none⟩ = some (.bool p) := rblk_cell P 0
  have p1 : W1.cell? ⟨w.heap.size, 1, none⟩ = some (.slice A n c) := rblk_cell P 1
  refine (HB.out _ (hA.below kb)).mono ?_
  rintro e W2 ⟨rfl, hb⟩
  clear p0 p1
  replace P := rblk_below P hb
  replace kb := bt kb hb
  clear hb
  have p1 : W2.cell? ⟨w.heap.size, 1, none⟩ = some (.slice A n c) := rblk_cell P 1
  have p2 : W2.cell? ⟨w.heap.size, 2, none⟩ = some (.slice D k d) := rblk_cell P 2
  go_wp2_with fail
  refine (HO.out _ (hD.below kb)).mono ?_
  rintro e W3 ⟨rfl, rfl⟩
  go_wp2
  go_ret
  exact ⟨rfl, kb⟩

set_option maxHeartbeats 1000000 in
theorem rok_k (p : Bool) (l m : List Int) (A D : Option Addr) (n c k d : Nat) (w : World) (hl : l.length = n) (hm : m.length = k) (hn : n ≤ 9223372036854775807) (hk : k ≤ 9223372036854775807) (hb : okB p l = true) (ho : ok m = true) (hk2 : k = 0 ∨ 24 < k ∨ 24 < n) (hA : RdS w A (vi l)) (hD : RdS w D (vi m)) :
    Calls Tryz.prog 52 #[.agg #[.bool p, .slice A n c, .slice D k d]] w fun e w' => e = .returned (.bool (false)) ∧ Below w.heap.size w w' := by
  have HB := Lib.hid (fun W h => spec_bok p l A n c W hl hn h)
  have HO := Lib.hid (fun W h => spec_ok m D k d W hm hk h)
  rw [hb] at HB
  rw [ho] at HO
  clear hl hm hb ho
  go_enter Tryz.func52, Tryz.ntmps52
  go_wp2_with fail
  have kb := ba1 w (.cells #[.bool p, .slice A n c, .slice D k d] 26)
  have P := heap_alloc_new w (.cells #[.bool p, .slice A n c, .slice D k d] 26)
  generalize w.alloc (.cells #[.bool p, .slice A n c, .slice D k d] 26) = W1 at kb P ⊢
  have p0 : W1.cell? ⟨w.heap.size, 0, none⟩ = some (.bool p) := rblk_cell P 0
  have p1 : W1.cell? ⟨w.heap.size, 1, none⟩ = some (.slice A n c) := rblk_cell P 1
  refine (HB.out _ (hA.below kb)).mono ?_
  rintro e W2 ⟨rfl, hb⟩
  clear p0 p1
  replace P := rblk_below P hb
  replace kb := bt kb hb
  clear hb
  have p1 : W2.cell? ⟨w.heap.size, 1, none⟩ = some (.slice A n c) := rblk_cell P 1
  have p2 : W2.cell? ⟨w.heap.size, 2, none⟩ = some (.slice D k d) := rblk_cell P 2
  go_wp2_with fail
  refine (HO.out _ (hD.below kb)).mono ?_
  rintro e W3 ⟨rfl, rfl⟩
  by_cases h1 : k = 0
  · subst h1
    go_wp2
    go_ret
    exact ⟨rfl, kb⟩
  · by_cases h2 : 24 < k
    · have h2' : (24 : Int) < (k : Int) := by omega
      go_wp2
      go_ret
      exact ⟨rfl, kb⟩
    · have h2' : ¬ (24 : Int) < (k : Int) := by omega
      have h3 : (24 : Int) < (n : Int) := by omega
      go_wp2
      go_ret
      exact ⟨rfl, kb⟩

set_option maxHeartbeats 1000000 in
theorem rok_g (p : Bool) (l m : List Int) (A D : Option Addr) (n c k d : Nat) (w : World) (hl : l.length = n) (hm : m.length = k) (hn : n ≤ 9223372036854775807) (hk : k ≤ 9223372036854775807) (z b : Nat) (hz : l = nd z) (hbb : m = nd b) (hb : okB p l = true) (ho : ok m = true) (hk1 : 0 < k) (hk2 : k ≤ 24) (hn2 : n ≤ 24) (hA : RdS w A (vi l)) (hD : RdS w D (vi m)) :
    Calls Tryz.prog 52 #[.agg #[.bool p, .slice A n c, .slice D k d]] w fun e w' => e = .returned (.bool (decide (Nat.gcd z b = 1))) ∧ Below w.heap.size w w' := by
  have HB := Lib.hid (fun W h => spec_bok p l A n c W hl hn h)
  have HO := Lib.hid (fun W h => spec_ok m D k d W hm hk h)
  rw [hb] at HB
  rw [ho] at HO
  have hzn : ln z = n := by rw [← nd_length, ← hz, hl]
  have hbk : ln b = k := by rw [← nd_length, ← hbb, hm]
  have HG := Lib.hid (fun W h h' => spec_gcd_rd z b A D n c k d W hzn hbk (by omega) (by omega) h h')
  rw [← hz, ← hbb] at HG
  have hgl : (nd (Nat.gcd z b)).length ≤ 9223372036854775807 := by
    rw [nd_length]
    have hb0 : 0 < b := by rcases Nat.eq_zero_or_pos b with h | h; (subst h; rw [ln_zero] at hbk; omega); exact h
    have := ln_mono (Nat.le_of_dvd hb0 (Nat.gcd_dvd_right z b)); omega
  have hq : decide (Nat.gcd z b = 1) = decide (nd (Nat.gcd z b) = [1]) := by
    have e1 : nd 1 = [1] := by unfold nd; rw [ln_pos (by decide), show 1 / 1000000000 = 0 by decide, ln_zero]; decide
    by_cases h : Nat.gcd z b = 1
    · rw [decide_eq_true h, decide_eq_true (show nd (Nat.gcd z b) = [1] by rw [h, e1])]
    · rw [decide_eq_false h, decide_eq_false (fun e => h (nd_inj (by rw [e, e1])))]
  rw [hq]
  generalize nd (Nat.gcd z b) = G at HG hgl ⊢
  have H1 := Lib.hid (fun A' c' W h => one_any G A' _ c' W rfl hgl h)
  have h1 : ¬ (k : Int) = 0 := by omega
  have h1' : ((k : Int) == 0) = false := by rw [beq_eq_false_iff_ne]; exact h1
  have h2 : ¬ (24 : Int) < (k : Int) := by omega
  have h3 : ¬ (24 : Int) < (n : Int) := by omega
  clear hq hgl hzn hbk hz hbb hl hm hb ho
  go_enter Tryz.func52, Tryz.ntmps52
  go_wp2_with fail
  have kb := ba1 w (.cells #[.bool p, .slice A n c, .slice D k d] 26)
  have P := heap_alloc_new w (.cells #[.bool p, .slice A n c, .slice D k d] 26)
  generalize w.alloc (.cells #[.bool p, .slice A n c, .slice D k d] 26) = W1 at kb P ⊢
  have p0 : W1.cell? ⟨w.heap.size, 0, none⟩ = some (.bool p) := rblk_cell P 0
  have p1 : W1.cell? ⟨w.heap.size, 1, none⟩ = some (.slice A n c) := rblk_cell P 1
  refine (HB.out _ (hA.below kb)).mono ?_
  rintro e W2 ⟨rfl, hb⟩
  clear p0 p1
  replace P := rblk_below P hb
  replace kb := bt kb hb
  clear hb
  have p1 : W2.cell? ⟨w.heap.size, 1, none⟩ = some (.slice A n c) := rblk_cell P 1
  have p2 : W2.cell? ⟨w.heap.size, 2, none⟩ = some (.slice D k d) := rblk_cell P 2
  go_wp2_with fail
  refine (HO.out _ (hD.below kb)).mono ?_
  rintro e W3 ⟨rfl, rfl⟩
  go_wp2_with fail
  refine (HG.out _ (hA.below kb) (hD.below kb)).mono ?_
  rintro e W4 ⟨A5, c5, rfl, o5, hb⟩
  clear p1 p2
  replace kb := bt kb hb
  go_wp2_with fail
  refine (H1.out _ _ _ o5.rd).mono ?_
  rintro e W5 ⟨rfl, hb⟩
  replace kb := bt kb hb
  go_wp2
  go_ret
  exact ⟨rfl, kb⟩

/-- 'RatOk' of the model. -/
theorem spec_rok (p : Bool) (l m : List Int) (A D : Option Addr) (n c k d : Nat) (w : World) (hl : l.length = n) (hm : m.length = k) (hn : n ≤ 9223372036854775807) (hk : k ≤ 9223372036854775807) (hA : RdS w A (vi l)) (hD : RdS w D (vi m)) :
    Calls Tryz.prog 52 #[.agg #[.bool p, .slice A n c, .slice D k d]] w fun e w' => e = .returned (.bool (okR p l m)) ∧ Below w.heap.size w w' := by
  by_cases h1 : okB p l = true
  · by_cases h2 : ok m = true
    · by_cases h3 : k = 0 ∨ 24 < k ∨ 24 < n
      · have e : okR p l m = false := by
          unfold okR
          rcases h3 with h | h | h
          · rw [decide_eq_false (show ¬ m ≠ [] from fun h0 => h0 (List.eq_nil_of_length_eq_zero (by omega)))]; simp
          · rw [decide_eq_false (show ¬ m.length ≤ 24 by omega)]; simp
          · rw [decide_eq_false (show ¬ l.length ≤ 24 by omega)]; simp
        rw [e]
        exact rok_k p l m A D n c k d w hl hm hn hk h1 h2 h3 hA hD
      · obtain ⟨z, _, hz, _⟩ := okB_z h1
        obtain ⟨b, hb, _⟩ := ok_nd h2
        have hm0 : m ≠ [] := fun e => by rw [e] at hm; simp at hm; omega
        have e : okR p l m = decide (Nat.gcd z.natAbs b = 1) := by
          unfold okR
          rw [h1, h2, decide_eq_true hm0, decide_eq_true (show m.length ≤ 24 by omega), decide_eq_true (show l.length ≤ 24 by omega), hz, hb, val_zm, val_nd]
          simp
        rw [e]
        exact rok_g p l m A D n c k d w hl hm hn hk z.natAbs b hz hb h1 h2 (by omega) (by omega) (by omega) hA hD
    · have h2' : ok m = false := by simpa using h2
      have e : okR p l m = false := by unfold okR; rw [h2']; simp
      rw [e]
      exact rok_o p l m A D n c k d w hl hm hn hk h1 h2' hA hD
  · have h1' : okB p l = false := by simpa using h1
    have e : okR p l m = false := by unfold okR; rw [h1']; simp
    rw [e]
    exact rok_b p l m A D n c k d w hl hm hn hk h1' hA hD
end Go.Proofs.YtpmndiajecmfcabGreatDoor

namespace Go.Proofs.YtpmndiajecmfcabGreatDoor
open Go.ChangeShapes Go.WideShapes Go.ChangeAt Go.RowKit
open Go.ChangeMaps (open_string shut_string)
set_option linter.unusedVariables false
set_option linter.unusedSimpArgs false
set_option maxRecDepth 4000

attribute [local go_sem ↓] Go.wp_at_zero Go.wp_at_succ

set_option maxHeartbeats 400000 in
theorem exists_any (p : Bool) (A D : Option Addr) (n k c d : Nat) (w : World) (hk : k ≤ 9223372036854775807) :
    Calls Tryz.prog 63 #[.agg #[.bool p, .slice A n c, .slice D k d]] w fun e w' => e = .returned (.bool (decide (0 < k))) ∧ Below w.heap.size w w' := by
  by_cases h : 0 < k
  · have hz : (0 : Int) < (k : Int) := by omega
    have hd : decide (0 < k) = true := decide_eq_true h
    go_enter Tryz.func63, Tryz.ntmps63
    go_wp2
    go_ret
    exact ⟨ret_bool' hd.symm, ba1 _ _⟩
  · have hz : ¬ (0 : Int) < (k : Int) := by omega
    have hd : decide (0 < k) = false := decide_eq_false h
    go_enter Tryz.func63, Tryz.ntmps63
    go_wp2
    go_ret
    exact ⟨by first | exact ret_bool' hd.symm | rfl, ba1 _ _⟩
set_option maxHeartbeats 400000 in
theorem divided_any (a b : Nat) (A D : Option Addr) (n c n' d : Nat) (w : World) (hn : ln a = n) (hn' : ln b = n') (h60 : n ≤ 60) (h60' : n' ≤ 60) (hb0 : 0 < n') (hA : RdS w A (vi (nd a))) (hD : RdS w D (vi (nd b))) :
    Calls Tryz.prog 76 #[.slice A n c, .slice D n' d] w (MadeI w.heap.size (nd (a / b)) w) := by
  have H := Lib.hid (impl_div a b A D n c n' d w hn hn' h60 h60' hb0 hA hD)
  clear hn hn' hb0 hA hD
  generalize nd (a / b) = L at H ⊢
  generalize nd (a % b) = M at H
  go_enter Tryz.func76, Tryz.ntmps76
  go_wp2_with fail
  refine H.out.mono ?_
  rintro e w1 ⟨A1, c1, D1, d1, rfl, hc1, hd1, o1, o2, hb, _⟩
  go_wp2
  go_ret
  exact ⟨A1, c1, rfl, hc1, o1, hb⟩
/-- 'bigInt' hands the row itself on. -/
theorem bigInt_same (p : Bool) (L : List Int) (A : Option Addr) (n c : Nat) (w : World) (hn : L.length = n) (h6 : n ≤ 1048576) (hc : n ≤ c) :
    Calls Tryz.prog 113 #[.agg #[.bool p, .slice A n c]] w fun e w' => ∃ A' c', e = .returned (.agg #[.bool (p && decide (L ≠ [])), .slice A' L.length c']) ∧ L.length ≤ c' ∧ (L = [] ∨ A' = A) ∧ Below w.heap.size w w' := by
  have H := fun W => Lib.hid (isZero_any A n c W h6)
  by_cases h0 : n = 0
  · have hL : L = [] := List.eq_nil_of_length_eq_zero (hn.trans h0)
    subst hL
    have hd : decide (n = 0) = true := decide_eq_true h0
    rw [hd] at H
    rw [show (p && decide (([] : List Int) ≠ [])) = false by simp]
    clear hn h0 hd
    go_enter Tryz.func113, Tryz.ntmps113
    go_wp2_with fail
    refine (H _).out.mono ?_
    rintro e w1 ⟨rfl, rfl⟩
    go_wp2
    exact bodyPost_ret (v := .agg #[.bool false, .slice none 0 0]) (by simp [results, Tryz.results113, go_sem]) rfl ⟨none, 0, rfl, Nat.le_refl _, (by simp), ba2 _ _ _⟩
  · have hd : decide (n = 0) = false := decide_eq_false h0
    rw [hd] at H
    have hL : decide (L ≠ []) = true := decide_eq_true (by rintro rfl; exact h0 hn.symm)
    rw [hL, Bool.and_true]
    have HN := Lib.hid hn
    clear hn h0 hd hL
    go_enter Tryz.func113, Tryz.ntmps113
    go_wp2_with fail
    refine (H _).out.mono ?_
    rintro e w1 ⟨rfl, rfl⟩
    go_wp2
    exact bodyPost_ret (v := .agg #[.bool p, .slice A n c]) (by simp [results, Tryz.results113, go_sem]) rfl ⟨A, c, by rw [HN.out], by rw [HN.out]; exact hc, .inr rfl, ba2 _ _ _⟩
theorem own_same {B : Nat} {w : World} {A A' : Option Addr} {L : List Int} (h : L = [] ∨ A' = A) (o : OwnS B w A (vi L)) : OwnS B w A' (vi L) := by
  rcases h with h | h
  · exact .inl (by rw [h]; rfl)
  · rw [h]; exact o
theorem apart_same {L : List Int} {A A' : Option Addr} {k : Nat} {D : Option Addr} (h : L = [] ∨ A' = A) (o : Apart L.length A k D) : Apart L.length A' k D := by
  rcases h with h | h
  · intro a ha; rw [h] at ha; simp [rowOf] at ha
  · rw [h]; exact o

set_option maxHeartbeats 1000000 in
theorem limited_yes (B : Nat) (p : Bool) (L M : List Int) (A D : Option Addr) (c d : Nat) (w : World) (hn : L.length ≤ 24) (hk : M.length ≤ 24) (hc : L.length ≤ c) (hd : M.length ≤ d) (oA : OwnS B w A (vi L)) (oD : OwnS B w D (vi M)) (hap : Apart L.length A M.length D) :
    Calls Tryz.prog 78 #[.agg #[.bool p, .slice A L.length c], .slice D M.length d] w (MadeR B (p && decide (L ≠ [])) L M w) := by
  have h1 : ¬ (24 : Int) < ((L.length : Nat) : Int) := by omega
  have h2 : ¬ (24 : Int) < ((M.length : Nat) : Int) := by omega
  have HB := Lib.hid (fun A c W hc => bigInt_same p L A L.length c W rfl (by omega) hc)
  generalize (p && decide (L ≠ [])) = sg at HB ⊢
  go_enter Tryz.func78, Tryz.ntmps78
  go_wp2_with fail
  have kb := ba2 w (.cells #[.bool p, .slice A L.length c] 82) (.cells #[.bool false, .slice none 0 0, .slice none 0 0] 26)
  obtain ⟨P_x, P_o⟩ := blocks2 w (.cells #[.bool p, .slice A L.length c] 82) (.cells #[.bool false, .slice none 0 0, .slice none 0 0] 26)
  generalize (w.alloc (.cells #[.bool p, .slice A L.length c] 82)).alloc (.cells #[.bool false, .slice none 0 0, .slice none 0 0] 26) = W1 at kb P_x P_o ⊢
  obtain ⟨rr, hrr⟩ : ∃ r, r = w.heap.size + 1 := ⟨_, rfl⟩
  rw [← hrr] at P_o ⊢
  have hrr3 : w.heap.size ≤ rr := by omega
  have nr_x : rr ≠ w.heap.size := by omega
  clear hrr
  refine (HB.out _ _ _ hc).mono ?_
  rintro e W2 ⟨A3, c3, rfl, hc3, hsame, hb⟩
  replace P_x := rblk_below P_x hb
  replace P_o := rblk_below P_o hb
  replace kb := bt kb hb
  clear hb
  have c_o0 : W2.cell? ⟨rr, 0, none⟩ = some (.bool false) := rblk_cell P_o 0
  have c_o1 : W2.cell? ⟨rr, 1, none⟩ = some (.slice none 0 0) := rblk_cell P_o 1
  have c_o2 : W2.cell? ⟨rr, 2, none⟩ = some (.slice none 0 0) := rblk_cell P_o 2
  have f_o0 := rblk_free P_o 0
  have f_o1 := rblk_free P_o 1
  have f_o2 := rblk_free P_o 2
  go_wp2
  exact bodyPost_ret (v := .agg #[.bool sg, .slice A3 L.length c3, .slice D M.length d]) (by simp [results, Tryz.results78, go_sem, c_o0, c_o1, c_o2]) rfl ⟨A3, c3, D, d, rfl, hc3, hd, own_same hsame (oA.below (below_put3 kb hrr3 _ _ _)), oD.below (below_put3 kb hrr3 _ _ _), apart_same hsame hap, below_put3 kb hrr3 _ _ _⟩

set_option maxHeartbeats 1000000 in
theorem limited_n (B : Nat) (p : Bool) (L M : List Int) (A D : Option Addr) (c d : Nat) (w : World) (hn : 24 < L.length) :
    Calls Tryz.prog 78 #[.agg #[.bool p, .slice A L.length c], .slice D M.length d] w (MadeR B false [] [] w) := by
  have h1 : (24 : Int) < ((L.length : Nat) : Int) := by omega
  go_enter Tryz.func78, Tryz.ntmps78
  go_wp2
  exact bodyPost_ret (v := .agg #[.bool false, .slice none 0 0, .slice none 0 0]) (by simp [results, Tryz.results78, go_sem]) rfl ⟨none, 0, none, 0, rfl, Nat.le_refl _, Nat.le_refl _, .inl rfl, .inl rfl, (fun a h => by simp [rowOf] at h), ba2 _ _ _⟩

set_option maxHeartbeats 1000000 in
theorem limited_k (B : Nat) (p : Bool) (L M : List Int) (A D : Option Addr) (c d : Nat) (w : World) (hn : L.length ≤ 24) (hk : 24 < M.length) :
    Calls Tryz.prog 78 #[.agg #[.bool p, .slice A L.length c], .slice D M.length d] w (MadeR B false [] [] w) := by
  have h1 : ¬ (24 : Int) < ((L.length : Nat) : Int) := by omega
  have h2 : (24 : Int) < ((M.length : Nat) : Int) := by omega
  go_enter Tryz.func78, Tryz.ntmps78
  go_wp2
  exact bodyPost_ret (v := .agg #[.bool false, .slice none 0 0, .slice none 0 0]) (by simp [results, Tryz.results78, go_sem]) rfl ⟨none, 0, none, 0, rfl, Nat.le_refl _, Nat.le_refl _, .inl rfl, .inl rfl, (fun a h => by simp [rowOf] at h), ba2 _ _ _⟩

/-- 'limited' of the parts of a fraction. -/
theorem limited_q (B : Nat) (v : Rat) (p : Bool) (A D : Option Addr) (c d : Nat) (w : World) (hp : (p && decide (nd v.num.natAbs ≠ [])) = zn v.num) (hc : (nd v.num.natAbs).length ≤ c) (hd : (nd v.den).length ≤ d) (oA : OwnS B w A (vi (nd v.num.natAbs))) (oD : OwnS B w D (vi (nd v.den))) (hap : Apart (nd v.num.natAbs).length A (nd v.den).length D) :
    Calls Tryz.prog 78 #[.agg #[.bool p, .slice A (nd v.num.natAbs).length c], .slice D (nd v.den).length d] w (MadeR B (qn (cutQ v)) (ql (cutQ v)) (qd (cutQ v)) w) := by
  by_cases h : Fit v
  · rw [cutQ_in h]
    have h1 := h.1; have h2 := h.2
    exact (limited_yes B p (nd v.num.natAbs) (nd v.den) A D c d w (by rw [nd_length]; exact h1) (by rw [nd_length]; exact h2) hc hd oA oD hap).mono fun e w' k => k.to hp.symm rfl rfl
  · rw [cutQ_out h]
    by_cases h1 : 24 < (nd v.num.natAbs).length
    · exact limited_n B p _ _ A D c d w h1
    · refine limited_k B p _ _ A D c d w (by omega) ?_
      rw [nd_length] at h1 ⊢
      unfold Fit at h
      omega
end Go.Proofs.YtpmndiajecmfcabGreatDoor

namespace Go.Proofs.YtpmndiajecmfcabGreatDoor
open Go.ChangeShapes Go.WideShapes Go.ChangeAt Go.RowKit
open Go.ChangeMaps (open_string shut_string)
set_option linter.unusedVariables false
set_option linter.unusedSimpArgs false
set_option maxRecDepth 4000

attribute [local go_sem ↓] Go.wp_at_zero Go.wp_at_succ

set_option maxHeartbeats 400000 in
theorem isOne_any (l : List Int) (A : Option Addr) (n c : Nat) (w : World) (hl : l.length = n) (hn : n ≤ 9223372036854775807) (hA : RdS w A (vi l)) :
    Calls Tryz.prog 29 #[.slice A n c] w fun e w' => e = .returned (.bool (decide (l = [1]))) ∧ Below w.heap.size w w' := by
  by_cases h1 : n = 1
  · subst h1
    obtain ⟨x, rfl⟩ : ∃ x, l = [x] := by
      match l, hl with
      | [x], _ => exact ⟨x, rfl⟩
    obtain ⟨b1, o1, rfl, hb1, e1⟩ := hA.int (k := 0) (x := x) rfl
    rw [Nat.add_zero] at e1
    clear hA
    have hq : decide ([x] = [1]) = (x == 1) := by by_cases h : x = 1 <;> simp [h]
    rw [hq]
    go_enter Tryz.func29, Tryz.ntmps29
    go_wp2
    go_ret
    exact ⟨rfl, Below.refl _ _⟩
  · have hq : decide (l = [1]) = false := decide_eq_false (fun h => h1 (by rw [← hl, h]; rfl))
    rw [hq]
    have hz : ((n : Int) == 1) = false := by rw [beq_eq_false_iff_ne]; omega
    clear hA hl
    go_enter Tryz.func29, Tryz.ntmps29
    go_wp2
    go_ret
    exact ⟨rfl, Below.refl _ _⟩


set_option maxHeartbeats 1000000 in
theorem iok_b (p : Bool) (l m : List Int) (A D : Option Addr) (n c k d : Nat) (w : World) (hl : l.length = n) (hm : m.length = k) (hn : n ≤ 9223372036854775807) (hk : k ≤ 9223372036854775807) (hb : okB p l = false) (hA : RdS w A (vi l)) (hD : RdS w D (vi m)) :
    Calls Tryz.prog 28 #[.agg #[.bool p, .slice A n c, .slice D k d]] w fun e w' => e = .returned (.bool (false)) ∧ Below w.heap.size w w' := by
  have HB := Lib.hid (fun W h => impl_bok p l A n c W hl hn h)
  rw [hb] at HB
  have RR : Hid (∀ W, Below w.heap.size w W → RdS W A (vi l) ∧ RdS W D (vi m)) := Lib.hid (fun W hb => ⟨hA.below hb, hD.below hb⟩)
  clear hl hm hb hA hD
  go_enter Tryz.func28, Tryz.ntmps28
  go_wp2_with fail
  have kb := ba1 w (.cells #[.bool p, .slice A n c, .slice D k d] 26)
  have P_r := heap_alloc_new w (.cells #[.bool p, .slice A n c, .slice D k d] 26)
  generalize w.alloc (.cells #[.bool p, .slice A n c, .slice D k d] 26) = W1 at kb P_r ⊢
  refine (HB.out _ (RR.out _ kb).1).mono ?_
  rintro e W2 ⟨rfl, hb⟩
  replace P_r := rblk_below P_r hb
  replace kb := bt kb hb
  clear hb
  have c_r0 : W2.cell? ⟨w.heap.size, 0, none⟩ = some (.bool p) := rblk_cell P_r 0
  have c_r1 : W2.cell? ⟨w.heap.size, 1, none⟩ = some (.slice A n c) := rblk_cell P_r 1
  have c_r2 : W2.cell? ⟨w.heap.size, 2, none⟩ = some (.slice D k d) := rblk_cell P_r 2
  go_wp2
  go_ret
  exact ⟨rfl, kb⟩

set_option maxHeartbeats 1000000 in
theorem iok_o (p : Bool) (l m : List Int) (A D : Option Addr) (n c k d : Nat) (w : World) (hl : l.length = n) (hm : m.length = k) (hn : n ≤ 9223372036854775807) (hk : k ≤ 9223372036854775807) (hb : okB p l = true) (ho : ok m = false) (hA : RdS w A (vi l)) (hD : RdS w D (vi m)) :
    Calls Tryz.prog 28 #[.agg #[.bool p, .slice A n c, .slice D k d]] w fun e w' => e = .returned (.bool (false)) ∧ Below w.heap.size w w' := by
  have HB := Lib.hid (fun W h => impl_bok p l A n c W hl hn h)
  have HO := Lib.hid (fun W h => impl_ok m D k d W hm hk h)
  rw [hb] at HB
  rw [ho] at HO
  have RR : Hid (∀ W, Below w.heap.size w W → RdS W A (vi l) ∧ RdS W D (vi m)) := Lib.hid (fun W hb => ⟨hA.below hb, hD.below hb⟩)
  clear hl hm hb ho hA hD
  go_enter Tryz.func28, Tryz.ntmps28
  go_wp2_with fail
  have kb := ba1 w (.cells #[.bool p, .slice A n c, .slice D k d] 26)
  have P_r := heap_alloc_new w (.cells #[.bool p, .slice A n c, .slice D k d] 26)
  generalize w.alloc (.cells #[.bool p, .slice A n c, .slice D k d] 26) = W1 at kb P_r ⊢
  refine (HB.out _ (RR.out _ kb).1).mono ?_
  rintro e W2 ⟨rfl, hb⟩
  replace P_r := rblk_below P_r hb
  replace kb := bt kb hb
  clear hb
  have c_r0 : W2.cell? ⟨w.heap.size, 0, none⟩ = some (.bool p) := rblk_cell P_r 0
  have c_r1 : W2.cell? ⟨w.heap.size, 1, none⟩ = some (.slice A n c) := rblk_cell P_r 1
  have c_r2 : W2.cell? ⟨w.heap.size, 2, none⟩ = some (.slice D k d) := rblk_cell P_r 2
  go_wp2_with fail
  clear c_r0 c_r1 c_r2
  refine (HO.out _ (RR.out _ kb).2).mono ?_
  rintro e _ ⟨rfl, rfl⟩
  go_wp2
  go_ret
  exact ⟨rfl, kb⟩

set_option maxHeartbeats 1000000 in
theorem iok_n (p : Bool) (l m : List Int) (A D : Option Addr) (n c k d : Nat) (w : World) (hl : l.length = n) (hm : m.length = k) (hn : n ≤ 9223372036854775807) (hk : k ≤ 9223372036854775807) (hb : okB p l = true) (ho : ok m = true) (h1 : 24 < n) (hA : RdS w A (vi l)) (hD : RdS w D (vi m)) :
    Calls Tryz.prog 28 #[.agg #[.bool p, .slice A n c, .slice D k d]] w fun e w' => e = .returned (.bool (false)) ∧ Below w.heap.size w w' := by
  have HB := Lib.hid (fun W h => impl_bok p l A n c W hl hn h)
  have HO := Lib.hid (fun W h => impl_ok m D k d W hm hk h)
  rw [hb] at HB
  rw [ho] at HO
  have RR : Hid (∀ W, Below w.heap.size w W → RdS W A (vi l) ∧ RdS W D (vi m)) := Lib.hid (fun W hb => ⟨hA.below hb, hD.below hb⟩)
  have h1' : (24 : Int) < (n : Int) := by omega
  clear hl hm hb ho hA hD h1
  go_enter Tryz.func28, Tryz.ntmps28
  go_wp2_with fail
  have kb := ba1 w (.cells #[.bool p, .slice A n c, .slice D k d] 26)
  have P_r := heap_alloc_new w (.cells #[.bool p, .slice A n c, .slice D k d] 26)
  generalize w.alloc (.cells #[.bool p, .slice A n c, .slice D k d] 26) = W1 at kb P_r ⊢
  refine (HB.out _ (RR.out _ kb).1).mono ?_
  rintro e W2 ⟨rfl, hb⟩
  replace P_r := rblk_below P_r hb
  replace kb := bt kb hb
  clear hb
  have c_r0 : W2.cell? ⟨w.heap.size, 0, none⟩ = some (.bool p) := rblk_cell P_r 0
  have c_r1 : W2.cell? ⟨w.heap.size, 1, none⟩ = some (.slice A n c) := rblk_cell P_r 1
  have c_r2 : W2.cell? ⟨w.heap.size, 2, none⟩ = some (.slice D k d) := rblk_cell P_r 2
  go_wp2_with fail
  clear c_r0 c_r1 c_r2
  refine (HO.out _ (RR.out _ kb).2).mono ?_
  rintro e _ ⟨rfl, rfl⟩
  have c_r0 : W2.cell? ⟨w.heap.size, 0, none⟩ = some (.bool p) := rblk_cell P_r 0
  have c_r1 : W2.cell? ⟨w.heap.size, 1, none⟩ = some (.slice A n c) := rblk_cell P_r 1
  have c_r2 : W2.cell? ⟨w.heap.size, 2, none⟩ = some (.slice D k d) := rblk_cell P_r 2
  go_wp2
  go_ret
  exact ⟨rfl, kb⟩

set_option maxHeartbeats 1000000 in
theorem iok_k (p : Bool) (l m : List Int) (A D : Option Addr) (n c k d : Nat) (w : World) (hl : l.length = n) (hm : m.length = k) (hn : n ≤ 9223372036854775807) (hk : k ≤ 9223372036854775807) (hb : okB p l = true) (ho : ok m = true) (h1 : ¬ 24 < n) (h2 : 24 < k) (hA : RdS w A (vi l)) (hD : RdS w D (vi m)) :
    Calls Tryz.prog 28 #[.agg #[.bool p, .slice A n c, .slice D k d]] w fun e w' => e = .returned (.bool (false)) ∧ Below w.heap.size w w' := by
  have HB := Lib.hid (fun W h => impl_bok p l A n c W hl hn h)
  have HO := Lib.hid (fun W h => impl_ok m D k d W hm hk h)
  rw [hb] at HB
  rw [ho] at HO
  have RR : Hid (∀ W, Below w.heap.size w W → RdS W A (vi l) ∧ RdS W D (vi m)) := Lib.hid (fun W hb => ⟨hA.below hb, hD.below hb⟩)
  have h1' : ¬ (24 : Int) < (n : Int) := by omega
  have h2' : (24 : Int) < (k : Int) := by omega
  clear hl hm hb ho hA hD h1 h2
  go_enter Tryz.func28, Tryz.ntmps28
  go_wp2_with fail
  have kb := ba1 w (.cells #[.bool p, .slice A n c, .slice D k d] 26)
  have P_r := heap_alloc_new w (.cells #[.bool p, .slice A n c, .slice D k d] 26)
  generalize w.alloc (.cells #[.bool p, .slice A n c, .slice D k d] 26) = W1 at kb P_r ⊢
  refine (HB.out _ (RR.out _ kb).1).mono ?_
  rintro e W2 ⟨rfl, hb⟩
  replace P_r := rblk_below P_r hb
  replace kb := bt kb hb
  clear hb
  have c_r0 : W2.cell? ⟨w.heap.size, 0, none⟩ = some (.bool p) := rblk_cell P_r 0
  have c_r1 : W2.cell? ⟨w.heap.size, 1, none⟩ = some (.slice A n c) := rblk_cell P_r 1
  have c_r2 : W2.cell? ⟨w.heap.size, 2, none⟩ = some (.slice D k d) := rblk_cell P_r 2
  go_wp2_with fail
  clear c_r0 c_r1 c_r2
  refine (HO.out _ (RR.out _ kb).2).mono ?_
  rintro e _ ⟨rfl, rfl⟩
  have c_r0 : W2.cell? ⟨w.heap.size, 0, none⟩ = some (.bool p) := rblk_cell P_r 0
  have c_r1 : W2.cell? ⟨w.heap.size, 1, none⟩ = some (.slice A n c) := rblk_cell P_r 1
  have c_r2 : W2.cell? ⟨w.heap.size, 2, none⟩ = some (.slice D k d) := rblk_cell P_r 2
  go_wp2
  go_ret
  exact ⟨rfl, kb⟩

set_option maxHeartbeats 1000000 in
theorem iok_e (p : Bool) (l m : List Int) (A D : Option Addr) (n c k d : Nat) (w : World) (hl : l.length = n) (hm : m.length = k) (hn : n ≤ 9223372036854775807) (hk : k ≤ 9223372036854775807) (hb : okB p l = true) (ho : ok m = true) (h1 : ¬ 24 < n) (h2 : k = 0) (hA : RdS w A (vi l)) (hD : RdS w D (vi m)) :
    Calls Tryz.prog 28 #[.agg #[.bool p, .slice A n c, .slice D k d]] w fun e w' => e = .returned (.bool (false)) ∧ Below w.heap.size w w' := by
  have HB := Lib.hid (fun W h => impl_bok p l A n c W hl hn h)
  have HO := Lib.hid (fun W h => impl_ok m D k d W hm hk h)
  rw [hb] at HB
  rw [ho] at HO
  have RR : Hid (∀ W, Below w.heap.size w W → RdS W A (vi l) ∧ RdS W D (vi m)) := Lib.hid (fun W hb => ⟨hA.below hb, hD.below hb⟩)
  have h1' : ¬ (24 : Int) < (n : Int) := by omega
  have h2' : ¬ (24 : Int) < (k : Int) := by omega
  have EX := Lib.hid (fun W => exists_any p A D n k c d W hk)
  rw [decide_eq_false (show ¬ 0 < k by omega)] at EX
  clear hl hm hb ho hA hD h1 h2
  go_enter Tryz.func28, Tryz.ntmps28
  go_wp2_with fail
  have kb := ba1 w (.cells #[.bool p, .slice A n c, .slice D k d] 26)
  have P_r := heap_alloc_new w (.cells #[.bool p, .slice A n c, .slice D k d] 26)
  generalize w.alloc (.cells #[.bool p, .slice A n c, .slice D k d] 26) = W1 at kb P_r ⊢
  refine (HB.out _ (RR.out _ kb).1).mono ?_
  rintro e W2 ⟨rfl, hb⟩
  replace P_r := rblk_below P_r hb
  replace kb := bt kb hb
  clear hb
  have c_r0 : W2.cell? ⟨w.heap.size, 0, none⟩ = some (.bool p) := rblk_cell P_r 0
  have c_r1 : W2.cell? ⟨w.heap.size, 1, none⟩ = some (.slice A n c) := rblk_cell P_r 1
  have c_r2 : W2.cell? ⟨w.heap.size, 2, none⟩ = some (.slice D k d) := rblk_cell P_r 2
  go_wp2_with fail
  clear c_r0 c_r1 c_r2
  refine (HO.out _ (RR.out _ kb).2).mono ?_
  rintro e _ ⟨rfl, rfl⟩
  have c_r0 : W2.cell? ⟨w.heap.size, 0, none⟩ = some (.bool p) := rblk_cell P_r 0
  have c_r1 : W2.cell? ⟨w.heap.size, 1, none⟩ = some (.slice A n c) := rblk_cell P_r 1
  have c_r2 : W2.cell? ⟨w.heap.size, 2, none⟩ = some (.slice D k d) := rblk_cell P_r 2
  go_wp2_with fail
  clear c_r0 c_r1 c_r2
  refine (EX.out _).mono ?_
  rintro e W3 ⟨rfl, hb⟩
  replace P_r := rblk_below P_r hb
  replace kb := bt kb hb
  clear hb
  go_wp2
  go_ret
  exact ⟨rfl, kb⟩

set_option maxHeartbeats 1000000 in
theorem iok_g (p : Bool) (l m : List Int) (A D : Option Addr) (n c k d : Nat) (w : World) (hl : l.length = n) (hm : m.length = k) (hn : n ≤ 9223372036854775807) (hk : k ≤ 9223372036854775807) (z b : Nat) (hz : l = nd z) (hbb : m = nd b) (hb : okB p l = true) (ho : ok m = true) (hk1 : 0 < k) (hk2 : k ≤ 24) (hn2 : n ≤ 24) (hA : RdS w A (vi l)) (hD : RdS w D (vi m)) :
    Calls Tryz.prog 28 #[.agg #[.bool p, .slice A n c, .slice D k d]] w fun e w' => e = .returned (.bool (decide (Nat.gcd z b = 1))) ∧ Below w.heap.size w w' := by
  have HB := Lib.hid (fun W h => impl_bok p l A n c W hl hn h)
  have HO := Lib.hid (fun W h => impl_ok m D k d W hm hk h)
  rw [hb] at HB
  rw [ho] at HO
  have hzn : ln z = n := by rw [← nd_length, ← hz, hl]
  have hbk : ln b = k := by rw [← nd_length, ← hbb, hm]
  have HG := Lib.hid (fun W h h' => impl_gcd z b A D n c k d W hzn hbk (by omega) (by omega) h h')
  rw [← hz, ← hbb] at HG
  have hgl : (nd (Nat.gcd z b)).length ≤ 9223372036854775807 := by
    rw [nd_length]
    have hb0 : 0 < b := by rcases Nat.eq_zero_or_pos b with h | h; (subst h; rw [ln_zero] at hbk; omega); exact h
    have := ln_mono (Nat.le_of_dvd hb0 (Nat.gcd_dvd_right z b)); omega
  have hq : decide (Nat.gcd z b = 1) = decide (nd (Nat.gcd z b) = [1]) := by
    have e1 : nd 1 = [1] := by unfold nd; rw [ln_pos (by decide), show 1 / 1000000000 = 0 by decide, ln_zero]; decide
    by_cases h : Nat.gcd z b = 1
    · rw [decide_eq_true h, decide_eq_true (show nd (Nat.gcd z b) = [1] by rw [h, e1])]
    · rw [decide_eq_false h, decide_eq_false (fun e => h (nd_inj (by rw [e, e1])))]
  rw [hq]
  generalize nd (Nat.gcd z b) = G at HG hgl ⊢
  have H1 := Lib.hid (fun A' c' W h => isOne_any G A' _ c' W rfl hgl h)
  generalize decide (G = [1]) = v at H1 ⊢
  have h2 : ¬ (24 : Int) < (k : Int) := by omega
  have h3 : ¬ (24 : Int) < (n : Int) := by omega
  have EX := Lib.hid (fun W => exists_any p A D n k c d W hk)
  rw [decide_eq_true hk1] at EX
  have RR : Hid (∀ W, Below w.heap.size w W → RdS W A (vi l) ∧ RdS W D (vi m)) := Lib.hid (fun W hb => ⟨hA.below hb, hD.below hb⟩)
  clear hq hgl hzn hbk hz hbb hl hm hb ho hA hD
  go_enter Tryz.func28, Tryz.ntmps28
  go_wp2_with fail
  have kb := ba1 w (.cells #[.bool p, .slice A n c, .slice D k d] 26)
  have P_r := heap_alloc_new w (.cells #[.bool p, .slice A n c, .slice D k d] 26)
  generalize w.alloc (.cells #[.bool p, .slice A n c, .slice D k d] 26) = W1 at kb P_r ⊢
  refine (HB.out _ (RR.out _ kb).1).mono ?_
  rintro e W2 ⟨rfl, hb⟩
  replace P_r := rblk_below P_r hb
  replace kb := bt kb hb
  clear hb
  have c_r0 : W2.cell? ⟨w.heap.size, 0, none⟩ = some (.bool p) := rblk_cell P_r 0
  have c_r1 : W2.cell? ⟨w.heap.size, 1, none⟩ = some (.slice A n c) := rblk_cell P_r 1
  have c_r2 : W2.cell? ⟨w.heap.size, 2, none⟩ = some (.slice D k d) := rblk_cell P_r 2
  go_wp2_with fail
  clear c_r0 c_r1 c_r2
  refine (HO.out _ (RR.out _ kb).2).mono ?_
  rintro e _ ⟨rfl, rfl⟩
  have c_r0 : W2.cell? ⟨w.heap.size, 0, none⟩ = some (.bool p) := rblk_cell P_r 0
  have c_r1 : W2.cell? ⟨w.heap.size, 1, none⟩ = some (.slice A n c) := rblk_cell P_r 1
  have c_r2 : W2.cell? ⟨w.heap.size, 2, none⟩ = some (.slice D k d) := rblk_cell P_r 2
  go_wp2_with fail
  clear c_r0 c_r1 c_r2
  refine (EX.out _).mono ?_
  rintro e W3 ⟨rfl, hb⟩
  replace P_r := rblk_below P_r hb
  replace kb := bt kb hb
  clear hb
  have c_r0 : W3.cell? ⟨w.heap.size, 0, none⟩ = some (.bool p) := rblk_cell P_r 0
  have c_r1 : W3.cell? ⟨w.heap.size, 1, none⟩ = some (.slice A n c) := rblk_cell P_r 1
  have c_r2 : W3.cell? ⟨w.heap.size, 2, none⟩ = some (.slice D k d) := rblk_cell P_r 2
  go_wp2_with fail
  clear c_r0 c_r1 c_r2
  refine (HG.out _ (RR.out _ kb).1 (RR.out _ kb).2).mono ?_
  rintro e W4 ⟨A5, c5, rfl, o5, hb⟩
  replace P_r := rblk_below P_r hb
  replace kb := bt kb hb
  clear hb
  go_wp2_with fail
  refine (H1.out _ _ _ o5.rd).mono ?_
  rintro e W5 ⟨rfl, hb⟩
  replace P_r := rblk_below P_r hb
  replace o5 := o5.below hb
  replace kb := bt kb hb
  clear hb
  go_wp2
  go_ret
  exact ⟨rfl, kb⟩

/-- 'RatOk' of the program. -/
theorem impl_rok (p : Bool) (l m : List Int) (A D : Option Addr) (n c k d : Nat) (w : World) (hl : l.length = n) (hm : m.length = k) (hn : n ≤ 9223372036854775807) (hk : k ≤ 9223372036854775807) (hA : RdS w A (vi l)) (hD : RdS w D (vi m)) :
    Calls Tryz.prog 28 #[.agg #[.bool p, .slice A n c, .slice D k d]] w fun e w' => e = .returned (.bool (okR p l m)) ∧ Below w.heap.size w w' := by
  by_cases h1 : okB p l = true
  · by_cases h2 : ok m = true
    · by_cases h3 : k = 0 ∨ 24 < k ∨ 24 < n
      · have e : okR p l m = false := by
          unfold okR
          rcases h3 with h | h | h
          · rw [decide_eq_false (show ¬ m ≠ [] from fun h0 => h0 (List.eq_nil_of_length_eq_zero (by omega)))]; simp
          · rw [decide_eq_false (show ¬ m.length ≤ 24 by omega)]; simp
          · rw [decide_eq_false (show ¬ l.length ≤ 24 by omega)]; simp
        rw [e]
        by_cases g1 : 24 < n
        · exact iok_n p l m A D n c k d w hl hm hn hk h1 h2 g1 hA hD
        · by_cases g2 : 24 < k
          · exact iok_k p l m A D n c k d w hl hm hn hk h1 h2 g1 g2 hA hD
          · exact iok_e p l m A D n c k d w hl hm hn hk h1 h2 g1 (by omega) hA hD
      · obtain ⟨z, _, hz, _⟩ := okB_z h1
        obtain ⟨b, hb, _⟩ := ok_nd h2
        have hm0 : m ≠ [] := fun e => by rw [e] at hm; simp at hm; omega
        have e : okR p l m = decide (Nat.gcd z.natAbs b = 1) := by
          unfold okR
          rw [h1, h2, decide_eq_true hm0, decide_eq_true (show m.length ≤ 24 by omega), decide_eq_true (show l.length ≤ 24 by omega), hz, hb, val_zm, val_nd]
          simp
        rw [e]
        exact iok_g p l m A D n c k d w hl hm hn hk z.natAbs b hz hb h1 h2 (by omega) (by omega) (by omega) hA hD
    · have h2' : ok m = false := by simpa using h2
      have e : okR p l m = false := by unfold okR; rw [h2']; simp
      rw [e]
      exact iok_o p l m A D n c k d w hl hm hn hk h1 h2' hA hD
  · have h1' : okB p l = false := by simpa using h1
    have e : okR p l m = false := by unfold okR; rw [h1']; simp
    rw [e]
    exact iok_b p l m A D n c k d w hl hm hn hk h1' hA hD

set_option maxHeartbeats 1000000 in
theorem are_rats (pr ps : Bool) (l m l' m' : List Int) (A D A' D' : Option Addr) (n k n' k' c d c' d' : Nat) (w : World) (hl : l.length = n) (hm : m.length = k) (hl' : l'.length = n') (hm' : m'.length = k')
    (hn : n ≤ 9223372036854775807) (hk : k ≤ 9223372036854775807) (hn' : n' ≤ 9223372036854775807) (hk' : k' ≤ 9223372036854775807)
    (hA : RdS w A (vi l)) (hD : RdS w D (vi m)) (hA' : RdS w A' (vi l')) (hD' : RdS w D' (vi m')) :
    Calls Tryz.prog 42 #[.agg #[.bool pr, .slice A n c, .slice D k d], .agg #[.bool ps, .slice A' n' c', .slice D' k' d']] w fun e w' => e = .returned (.bool (okR pr l m && okR ps l' m')) ∧ Below w.heap.size w w' := by
  have H1 := Lib.hid (fun W h h' => impl_rok pr l m A D n c k d W hl hm hn hk h h')
  have H2 := Lib.hid (fun W h h' => impl_rok ps l' m' A' D' n' c' k' d' W hl' hm' hn' hk' h h')
  have RR : Hid (∀ W, Below w.heap.size w W → RdS W A (vi l) ∧ RdS W D (vi m) ∧ RdS W A' (vi l') ∧ RdS W D' (vi m')) := Lib.hid (fun W hb => ⟨hA.below hb, hD.below hb, hA'.below hb, hD'.below hb⟩)
  clear hA hD hA' hD' hl hm hl' hm' hn hk hn' hk'
  generalize okR ps l' m' = v2 at H2 ⊢
  generalize okR pr l m = v1 at H1 ⊢
  cases v1
  · rw [Bool.false_and]
    go_enter Tryz.func42, Tryz.ntmps42
    go_wp2_with fail
    have kb := ba2 w (.cells #[.bool pr, .slice A n c, .slice D k d] 26) (.cells #[.bool ps, .slice A' n' c', .slice D' k' d'] 26)
    obtain ⟨P_r, P_s⟩ := blocks2 w (.cells #[.bool pr, .slice A n c, .slice D k d] 26) (.cells #[.bool ps, .slice A' n' c', .slice D' k' d'] 26)
    generalize (w.alloc (.cells #[.bool pr, .slice A n c, .slice D k d] 26)).alloc (.cells #[.bool ps, .slice A' n' c', .slice D' k' d'] 26) = W1 at kb P_r P_s ⊢
    refine (H1.out _ (RR.out _ kb).1 (RR.out _ kb).2.1).mono ?_
    rintro e W2 ⟨rfl, hb⟩
    replace P_r := rblk_below P_r hb
    replace P_s := rblk_below P_s hb
    replace kb := bt kb hb
    clear hb
    go_wp2
    go_ret
    exact ⟨rfl, kb⟩
  · rw [Bool.true_and]
    go_enter Tryz.func42, Tryz.ntmps42
    go_wp2_with fail
    have kb := ba2 w (.cells #[.bool pr, .slice A n c, .slice D k d] 26) (.cells #[.bool ps, .slice A' n' c', .slice D' k' d'] 26)
    obtain ⟨P_r, P_s⟩ := blocks2 w (.cells #[.bool pr, .slice A n c, .slice D k d] 26) (.cells #[.bool ps, .slice A' n' c', .slice D' k' d'] 26)
    generalize (w.alloc (.cells #[.bool pr, .slice A n c, .slice D k d] 26)).alloc (.cells #[.bool ps, .slice A' n' c', .slice D' k' d'] 26) = W1 at kb P_r P_s ⊢
    refine (H1.out _ (RR.out _ kb).1 (RR.out _ kb).2.1).mono ?_
    rintro e W2 ⟨rfl, hb⟩
    replace P_r := rblk_below P_r hb
    replace P_s := rblk_below P_s hb
    replace kb := bt kb hb
    clear hb
    have c_r0 : W2.cell? ⟨w.heap.size, 0, none⟩ = some (.bool pr) := rblk_cell P_r 0
    have c_r1 : W2.cell? ⟨w.heap.size, 1, none⟩ = some (.slice A n c) := rblk_cell P_r 1
    have c_r2 : W2.cell? ⟨w.heap.size, 2, none⟩ = some (.slice D k d) := rblk_cell P_r 2
    have c_s0 : W2.cell? ⟨w.heap.size + 1, 0, none⟩ = some (.bool ps) := rblk_cell P_s 0
    have c_s1 : W2.cell? ⟨w.heap.size + 1, 1, none⟩ = some (.slice A' n' c') := rblk_cell P_s 1
    have c_s2 : W2.cell? ⟨w.heap.size + 1, 2, none⟩ = some (.slice D' k' d') := rblk_cell P_s 2
    go_wp2_with fail
    clear c_r0 c_r1 c_r2 c_s0 c_s1 c_s2
    refine (H2.out _ (RR.out _ kb).2.2.1 (RR.out _ kb).2.2.2).mono ?_
    rintro e W3 ⟨rfl, hb⟩
    replace P_r := rblk_below P_r hb
    replace P_s := rblk_below P_s hb
    replace kb := bt kb hb
    clear hb
    go_wp2
    go_ret
    exact ⟨rfl, kb⟩
end Go.Proofs.YtpmndiajecmfcabGreatDoor

namespace Go.Proofs.YtpmndiajecmfcabGreatDoor
open Go.ChangeShapes Go.WideShapes Go.ChangeAt Go.RowKit
open Go.ChangeMaps (open_string shut_string)
set_option linter.unusedVariables false
set_option linter.unusedSimpArgs false
set_option maxRecDepth 4000

/-- The text of a fraction. -/
def fmtR (p : Bool) (l m : List Int) : List UInt8 := if okR p l m then (if m = [1] then fmtB p l else fmtB p l ++ 47 :: fmtL m) else []
theorem fmtB_len (p : Bool) (l : List Int) : (fmtB p l).length ≤ 1048577 := by
  have := fmtL_len l
  unfold fmtB
  split
  · split
    · rw [List.length_cons]; omega
    · omega
  · simp
theorem joinParts_mid (a b : List UInt8) (bk c : Nat) (w : World) (h0 : w.cell? ⟨bk, 0, none⟩ = some (.string ⟨a.toArray⟩)) (h1 : w.cell? ⟨bk, 1, none⟩ = some (.string ⟨b.toArray⟩)) (hbk : bk < w.heap.size) (hc : 2 ≤ c) (hlen : a.length + b.length + 1 ≤ 140737488355328) :
    Calls Tryz.prog 39 #[.string ⟨#[47]⟩, .slice (some ⟨bk, 0, none⟩) 2 c] w fun e w' => e = .returned (.string ⟨(a ++ 47 :: b).toArray⟩) ∧ Below w.heap.size w w' := by
  have hj : Lib.join (([⟨a.toArray⟩, ⟨b.toArray⟩] : List ByteArray).map (·.data.toList)) (ByteArray.mk #[47]).data.toList = a ++ 47 :: b := by simp [Lib.join, List.intercalate]
  have hc' := Tryz.strings_Join bk 0 c [⟨a.toArray⟩, ⟨b.toArray⟩] ⟨#[47]⟩ w (fun j x hx => by
    rw [Nat.zero_add]
    match j, hx with
    | 0, hx => simp at hx; rw [← hx]; exact h0
    | 1, hx => simp at hx; rw [← hx]; exact h1) hbk (by simp) (by simpa using hc) (by rw [hj, List.length_append, List.length_cons]; omega)
  rw [hj] at hc'
  have H := Lib.hid hc'
  clear hc' hj h0 h1 hlen
  go_enter Tryz.func39, Tryz.ntmps39
  go_wp2_with fail
  refine (Hid.out H).mono ?_
  rintro e w1 ⟨rfl, hb⟩
  go_wp2
  go_ret
  exact ⟨rfl, hb⟩

set_option maxHeartbeats 1000000 in
theorem spec_fmtR_no (pr : Bool) (l m : List Int) (A D : Option Addr) (n k c d : Nat) (w : World) (hl : l.length = n) (hm : m.length = k) (hn : n ≤ 9223372036854775807) (hk : k ≤ 9223372036854775807) (hA : RdS w A (vi l)) (hD : RdS w D (vi m)) (h1 : okR pr l m = false) :
    Calls Tryz.prog 24 #[.agg #[.bool pr, .slice A n c, .slice D k d]] w fun e w' => e = .returned (.string ⟨#[]⟩) ∧ Below w.heap.size w w' := by
  have H1 := Lib.hid (fun W h h' => spec_rok pr l m A D n c k d W hl hm hn hk h h')
  rw [h1] at H1
  have RR : Hid (∀ W, Below w.heap.size w W → RdS W A (vi l) ∧ RdS W D (vi m)) := Lib.hid (fun W hb => ⟨hA.below hb, hD.below hb⟩)
  clear h1 hA hD hl hm hn hk
  go_enter Tryz.func24, Tryz.ntmps24
  go_wp2_with fail
  have kb := ba1 w (.cells #[.bool pr, .slice A n c, .slice D k d] 26)
  have P_r := heap_alloc_new w (.cells #[.bool pr, .slice A n c, .slice D k d] 26)
  generalize w.alloc (.cells #[.bool pr, .slice A n c, .slice D k d] 26) = W1 at kb P_r ⊢
  refine (H1.out _ (RR.out _ kb).1 (RR.out _ kb).2).mono ?_
  rintro e W2 ⟨rfl, hb⟩
  replace P_r := rblk_below P_r hb
  replace kb := bt kb hb
  clear hb
  go_wp2
  go_ret
  exact ⟨rfl, kb⟩

set_option maxHeartbeats 1000000 in
theorem spec_fmtR_one (pr : Bool) (l m : List Int) (A D : Option Addr) (n k c d : Nat) (w : World) (hl : l.length = n) (hm : m.length = k) (hn : n ≤ 9223372036854775807) (hk : k ≤ 9223372036854775807) (hA : RdS w A (vi l)) (hD : RdS w D (vi m)) (h1 : okR pr l m = true) (h2 : decide (m = [1]) = true) :
    Calls Tryz.prog 24 #[.agg #[.bool pr, .slice A n c, .slice D k d]] w fun e w' => e = .returned (.string ⟨(fmtB pr l).toArray⟩) ∧ Below w.heap.size w w' := by
  have H1 := Lib.hid (fun W h h' => spec_rok pr l m A D n c k d W hl hm hn hk h h')
  rw [h1] at H1
  have HO := Lib.hid (fun W h => one_any m D k d W hm hk h)
  rw [h2] at HO
  have HF := Lib.hid (fun W h => spec_fmtB pr l A n c W hl hn h)
  have RR : Hid (∀ W, Below w.heap.size w W → RdS W A (vi l) ∧ RdS W D (vi m)) := Lib.hid (fun W hb => ⟨hA.below hb, hD.below hb⟩)
  clear h1 h2 hA hD hl hm hn hk
  generalize fmtB pr l = T at HF ⊢
  go_enter Tryz.func24, Tryz.ntmps24
  go_wp2_with fail
  have kb := ba1 w (.cells #[.bool pr, .slice A n c, .slice D k d] 26)
  have P_r := heap_alloc_new w (.cells #[.bool pr, .slice A n c, .slice D k d] 26)
  generalize w.alloc (.cells #[.bool pr, .slice A n c, .slice D k d] 26) = W1 at kb P_r ⊢
  refine (H1.out _ (RR.out _ kb).1 (RR.out _ kb).2).mono ?_
  rintro e W2 ⟨rfl, hb⟩
  replace P_r := rblk_below P_r hb
  replace kb := bt kb hb
  clear hb
  have c_r0 : W2.cell? ⟨w.heap.size, 0, none⟩ = some (.bool pr) := rblk_cell P_r 0
  have c_r1 : W2.cell? ⟨w.heap.size, 1, none⟩ = some (.slice A n c) := rblk_cell P_r 1
  have c_r2 : W2.cell? ⟨w.heap.size, 2, none⟩ = some (.slice D k d) := rblk_cell P_r 2
  go_wp2_with fail
  clear c_r0 c_r1 c_r2
  refine (HO.out _ (RR.out _ kb).2).mono ?_
  rintro e W3 ⟨rfl, hb⟩
  replace P_r := rblk_below P_r hb
  replace kb := bt kb hb
  clear hb
  have c_r0 : W3.cell? ⟨w.heap.size, 0, none⟩ = some (.bool pr) := rblk_cell P_r 0
  have c_r1 : W3.cell? ⟨w.heap.size, 1, none⟩ = some (.slice A n c) := rblk_cell P_r 1
  have c_r2 : W3.cell? ⟨w.heap.size, 2, none⟩ = some (.slice D k d) := rblk_cell P_r 2
  go_wp2_with fail
  clear c_r0 c_r1 c_r2
  refine (HF.out _ (RR.out _ kb).1).mono ?_
  rintro e W4 ⟨rfl, hb⟩
  replace P_r := rblk_below P_r hb
  replace kb := bt kb hb
  clear hb
  go_wp2
  go_ret
  exact ⟨rfl, kb⟩

set_option maxHeartbeats 1000000 in
theorem spec_fmtR_two (pr : Bool) (l m : List Int) (A D : Option Addr) (n k c d : Nat) (w : World) (hl : l.length = n) (hm : m.length = k) (hn : n ≤ 9223372036854775807) (hk : k ≤ 9223372036854775807) (hA : RdS w A (vi l)) (hD : RdS w D (vi m)) (h1 : okR pr l m = true) (h2 : decide (m = [1]) = false) :
    Calls Tryz.prog 24 #[.agg #[.bool pr, .slice A n c, .slice D k d]] w fun e w' => e = .returned (.string ⟨(fmtB pr l ++ 47 :: fmtL m).toArray⟩) ∧ Below w.heap.size w w' := by
  have H1 := Lib.hid (fun W h h' => spec_rok pr l m A D n c k d W hl hm hn hk h h')
  rw [h1] at H1
  have HO := Lib.hid (fun W h => one_any m D k d W hm hk h)
  rw [h2] at HO
  have HF := Lib.hid (fun W h => spec_fmtB pr l A n c W hl hn h)
  have HN := Lib.hid (fun W h => spec_fmtNat m D k d W hm hk h)
  have RR : Hid (∀ W, Below w.heap.size w W → RdS W A (vi l) ∧ RdS W D (vi m)) := Lib.hid (fun W hb => ⟨hA.below hb, hD.below hb⟩)
  have hT := fmtB_len pr l
  have hU := fmtL_len m
  clear h1 h2 hA hD hl hm hn hk
  generalize fmtB pr l = T at HF hT ⊢
  generalize fmtL m = U at HN hU ⊢
  go_enter Tryz.func24, Tryz.ntmps24
  go_wp2_with fail
  have kb := ba1 w (.cells #[.bool pr, .slice A n c, .slice D k d] 26)
  have P_r := heap_alloc_new w (.cells #[.bool pr, .slice A n c, .slice D k d] 26)
  generalize w.alloc (.cells #[.bool pr, .slice A n c, .slice D k d] 26) = W1 at kb P_r ⊢
  refine (H1.out _ (RR.out _ kb).1 (RR.out _ kb).2).mono ?_
  rintro e W2 ⟨rfl, hb⟩
  replace P_r := rblk_below P_r hb
  replace kb := bt kb hb
  clear hb
  have c_r0 : W2.cell? ⟨w.heap.size, 0, none⟩ = some (.bool pr) := rblk_cell P_r 0
  have c_r1 : W2.cell? ⟨w.heap.size, 1, none⟩ = some (.slice A n c) := rblk_cell P_r 1
  have c_r2 : W2.cell? ⟨w.heap.size, 2, none⟩ = some (.slice D k d) := rblk_cell P_r 2
  go_wp2_with fail
  clear c_r0 c_r1 c_r2
  refine (HO.out _ (RR.out _ kb).2).mono ?_
  rintro e W3 ⟨rfl, hb⟩
  replace P_r := rblk_below P_r hb
  replace kb := bt kb hb
  clear hb
  have c_r0 : W3.cell? ⟨w.heap.size, 0, none⟩ = some (.bool pr) := rblk_cell P_r 0
  have c_r1 : W3.cell? ⟨w.heap.size, 1, none⟩ = some (.slice A n c) := rblk_cell P_r 1
  have c_r2 : W3.cell? ⟨w.heap.size, 2, none⟩ = some (.slice D k d) := rblk_cell P_r 2
  go_wp2_with fail
  clear c_r0 c_r1 c_r2
  have z1 : ¬ 9223372036854775807 < T.length + 1 := by omega
  have z2 : ¬ 9223372036854775807 < T.length + 1 + U.length := by omega
  have SB : Hid (∀ w', Below W3.heap.size W3 w' → (w'.cell? ⟨w.heap.size, 0, none⟩ = some (.bool pr) ∧ w'.cell? ⟨w.heap.size, 1, none⟩ = some (.slice A n c) ∧ w'.cell? ⟨w.heap.size, 2, none⟩ = some (.slice D k d) ∧ Below W3.heap.size W3 w')) := Lib.hid (fun w' hB => ⟨rblk_cell (rblk_below P_r hB) 0, rblk_cell (rblk_below P_r hB) 1, rblk_cell (rblk_below P_r hB) 2, hB⟩)
  have KW := Lib.hid kb
  clear kb
  go_region_held3 (fun w' => w'.cell? ⟨w.heap.size, 0, none⟩ = some (.bool pr) ∧ w'.cell? ⟨w.heap.size, 1, none⟩ = some (.slice A n c) ∧ w'.cell? ⟨w.heap.size, 2, none⟩ = some (.slice D k d) ∧ Below W3.heap.size W3 w')
    (first | (exact SB.out _ (Below.refl _ _).drew) | (exact SB.out _ (ba1 _ _).drew) | (exact SB.out _ (ba1 _ _)) | (go_split_ands; exact SB.out _ (bt (by assumption : Below W3.heap.size W3 _) hb)) | (go_split_ands; exact SB.out _ (Below.alloc (by assumption : Below W3.heap.size W3 _) (Below.size (by assumption : Below W3.heap.size W3 _)) _)))
    (first | (go_at_call 54; go_split_ands; ((with_reducible refine (HF.out _ (RR.out _ (bt KW.out (by assumption : Below W3.heap.size W3 _))).1).mono ?_); rintro e Wn1_0 ⟨rfl, hb⟩; skip)) | (go_at_call 55; go_split_ands; ((with_reducible refine (HN.out _ (RR.out _ (bt KW.out (by assumption : Below W3.heap.size W3 _))).2).mono ?_); rintro e Wn1_1 ⟨rfl, hb⟩; skip)))
  have hfin := (‹_ ∧ _ ∧ _ ∧ Below W3.heap.size W3 _›).2.2.2
  go_wp2
  go_ret
  exact ⟨by simp [ByteArray.mk_append_mk], bt KW.out hfin⟩

theorem spec_fmtR (pr : Bool) (l m : List Int) (A D : Option Addr) (n k c d : Nat) (w : World) (hl : l.length = n) (hm : m.length = k) (hn : n ≤ 9223372036854775807) (hk : k ≤ 9223372036854775807) (hA : RdS w A (vi l)) (hD : RdS w D (vi m)) :
    Calls Tryz.prog 24 #[.agg #[.bool pr, .slice A n c, .slice D k d]] w fun e w' => e = .returned (.string ⟨(fmtR pr l m).toArray⟩) ∧ Below w.heap.size w w' := by
  by_cases h1 : okR pr l m = true
  · by_cases h2 : decide (m = [1]) = true
    · rw [show fmtR pr l m = fmtB pr l by unfold fmtR; rw [h1, if_pos rfl, if_pos (of_decide_eq_true h2)]]
      exact spec_fmtR_one pr l m A D n k c d w hl hm hn hk hA hD h1 h2
    · have h2' : decide (m = [1]) = false := by simpa using h2
      rw [show fmtR pr l m = fmtB pr l ++ 47 :: fmtL m by unfold fmtR; rw [h1, if_pos rfl, if_neg (of_decide_eq_false h2')]]
      exact spec_fmtR_two pr l m A D n k c d w hl hm hn hk hA hD h1 h2'
  · have h1' : okR pr l m = false := by simpa using h1
    rw [show fmtR pr l m = [] by unfold fmtR; rw [h1']; rfl]
    exact spec_fmtR_no pr l m A D n k c d w hl hm hn hk hA hD h1'

set_option maxHeartbeats 1000000 in
theorem impl_fmtR_no (pr : Bool) (l m : List Int) (A D : Option Addr) (n k c d : Nat) (w : World) (hl : l.length = n) (hm : m.length = k) (hn : n ≤ 9223372036854775807) (hk : k ≤ 9223372036854775807) (htab : Lib.TabIs Tryz.prog w "internal/strconv.uint64pow10" .u64 Lib.pow10Tab) (hA : RdS w A (vi l)) (hD : RdS w D (vi m)) (h1 : okR pr l m = false) :
    Calls Tryz.prog 11 #[.agg #[.bool pr, .slice A n c, .slice D k d]] w fun e w' => e = .returned (.string ⟨#[]⟩) ∧ Below w.heap.size w w' := by
  have H1 := Lib.hid (fun W h h' => impl_rok pr l m A D n c k d W hl hm hn hk h h')
  rw [h1] at H1
  have RR : Hid (∀ W, Below w.heap.size w W → RdS W A (vi l) ∧ RdS W D (vi m) ∧ Lib.TabIs Tryz.prog W "internal/strconv.uint64pow10" .u64 Lib.pow10Tab) := Lib.hid (fun W hb => ⟨hA.below hb, hD.below hb, tab_below hb htab⟩)
  clear h1 hA hD hl hm hn hk htab
  go_enter Tryz.func11, Tryz.ntmps11
  go_wp2_with fail
  have kb := ba1 w (.cells #[.bool pr, .slice A n c, .slice D k d] 26)
  have P_r := heap_alloc_new w (.cells #[.bool pr, .slice A n c, .slice D k d] 26)
  generalize w.alloc (.cells #[.bool pr, .slice A n c, .slice D k d] 26) = W1 at kb P_r ⊢
  refine (H1.out _ (RR.out _ kb).1 (RR.out _ kb).2.1).mono ?_
  rintro e W2 ⟨rfl, hb⟩
  replace P_r := rblk_below P_r hb
  replace kb := bt kb hb
  clear hb
  go_wp2
  go_ret
  exact ⟨rfl, kb⟩

set_option maxHeartbeats 1000000 in
theorem impl_fmtR_one (pr : Bool) (l m : List Int) (A D : Option Addr) (n k c d : Nat) (w : World) (hl : l.length = n) (hm : m.length = k) (hn : n ≤ 9223372036854775807) (hk : k ≤ 9223372036854775807) (htab : Lib.TabIs Tryz.prog w "internal/strconv.uint64pow10" .u64 Lib.pow10Tab) (hA : RdS w A (vi l)) (hD : RdS w D (vi m)) (h1 : okR pr l m = true) (h2 : decide (m = [1]) = true) :
    Calls Tryz.prog 11 #[.agg #[.bool pr, .slice A n c, .slice D k d]] w fun e w' => e = .returned (.string ⟨(fmtB pr l).toArray⟩) ∧ Below w.heap.size w w' := by
  have H1 := Lib.hid (fun W h h' => impl_rok pr l m A D n c k d W hl hm hn hk h h')
  rw [h1] at H1
  have HO := Lib.hid (fun W h => isOne_any m D k d W hm hk h)
  rw [h2] at HO
  have HF := Lib.hid (fun W h ht => impl_fmtB pr l A n c W hl hn h ht)
  have RR : Hid (∀ W, Below w.heap.size w W → RdS W A (vi l) ∧ RdS W D (vi m) ∧ Lib.TabIs Tryz.prog W "internal/strconv.uint64pow10" .u64 Lib.pow10Tab) := Lib.hid (fun W hb => ⟨hA.below hb, hD.below hb, tab_below hb htab⟩)
  clear h1 h2 hA hD hl hm hn hk htab
  generalize fmtB pr l = T at HF ⊢
  go_enter Tryz.func11, Tryz.ntmps11
  go_wp2_with fail
  have kb := ba1 w (.cells #[.bool pr, .slice A n c, .slice D k d] 26)
  have P_r := heap_alloc_new w (.cells #[.bool pr, .slice A n c, .slice D k d] 26)
  generalize w.alloc (.cells #[.bool pr, .slice A n c, .slice D k d] 26) = W1 at kb P_r ⊢
  refine (H1.out _ (RR.out _ kb).1 (RR.out _ kb).2.1).mono ?_
  rintro e W2 ⟨rfl, hb⟩
  replace P_r := rblk_below P_r hb
  replace kb := bt kb hb
  clear hb
  have c_r0 : W2.cell? ⟨w.heap.size, 0, none⟩ = some (.bool pr) := rblk_cell P_r 0
  have c_r1 : W2.cell? ⟨w.heap.size, 1, none⟩ = some (.slice A n c) := rblk_cell P_r 1
  have c_r2 : W2.cell? ⟨w.heap.size, 2, none⟩ = some (.slice D k d) := rblk_cell P_r 2
  go_wp2_with fail
  clear c_r0 c_r1 c_r2
  refine (HF.out _ (RR.out _ kb).1 (RR.out _ kb).2.2).mono ?_
  rintro e W3 ⟨rfl, hb⟩
  replace P_r := rblk_below P_r hb
  replace kb := bt kb hb
  clear hb
  have c_r0 : W3.cell? ⟨w.heap.size, 0, none⟩ = some (.bool pr) := rblk_cell P_r 0
  have c_r1 : W3.cell? ⟨w.heap.size, 1, none⟩ = some (.slice A n c) := rblk_cell P_r 1
  have c_r2 : W3.cell? ⟨w.heap.size, 2, none⟩ = some (.slice D k d) := rblk_cell P_r 2
  go_wp2_with fail
  clear c_r0 c_r1 c_r2
  refine (HO.out _ (RR.out _ kb).2.1).mono ?_
  rintro e W4 ⟨rfl, hb⟩
  replace P_r := rblk_below P_r hb
  replace kb := bt kb hb
  clear hb
  have c_r0 : W4.cell? ⟨w.heap.size, 0, none⟩ = some (.bool pr) := rblk_cell P_r 0
  have c_r1 : W4.cell? ⟨w.heap.size, 1, none⟩ = some (.slice A n c) := rblk_cell P_r 1
  have c_r2 : W4.cell? ⟨w.heap.size, 2, none⟩ = some (.slice D k d) := rblk_cell P_r 2
  go_wp2
  go_ret
  exact ⟨rfl, kb⟩

set_option maxHeartbeats 1000000 in
theorem impl_fmtR_two (pr : Bool) (l m : List Int) (A D : Option Addr) (n k c d : Nat) (w : World) (hl : l.length = n) (hm : m.length = k) (hn : n ≤ 9223372036854775807) (hk : k ≤ 9223372036854775807) (htab : Lib.TabIs Tryz.prog w "internal/strconv.uint64pow10" .u64 Lib.pow10Tab) (hA : RdS w A (vi l)) (hD : RdS w D (vi m)) (h1 : okR pr l m = true) (h2 : decide (m = [1]) = false) :
    Calls Tryz.prog 11 #[.agg #[.bool pr, .slice A n c, .slice D k d]] w fun e w' => e = .returned (.string ⟨(fmtB pr l ++ 47 :: fmtL m).toArray⟩) ∧ Below w.heap.size w w' := by
  have H1 := Lib.hid (fun W h h' => impl_rok pr l m A D n c k d W hl hm hn hk h h')
  rw [h1] at H1
  have HO := Lib.hid (fun W h => isOne_any m D k d W hm hk h)
  rw [h2] at HO
  have HF := Lib.hid (fun W h ht => impl_fmtB pr l A n c W hl hn h ht)
  have HN := Lib.hid (fun W h ht => impl_fmtNat m D k d W hm hk h ht)
  have RR : Hid (∀ W, Below w.heap.size w W → RdS W A (vi l) ∧ RdS W D (vi m) ∧ Lib.TabIs Tryz.prog W "internal/strconv.uint64pow10" .u64 Lib.pow10Tab) := Lib.hid (fun W hb => ⟨hA.below hb, hD.below hb, tab_below hb htab⟩)
  have hT := fmtB_len pr l
  have hU := fmtL_len m
  clear h1 h2 hA hD hl hm hn hk htab
  generalize fmtB pr l = T at HF hT ⊢
  generalize fmtL m = U at HN hU ⊢
  have HJ := Lib.hid (fun bk W h0 h1 h2 => joinParts_mid T U bk 2 W h0 h1 h2 (Nat.le_refl _) (by omega))
  go_enter Tryz.func11, Tryz.ntmps11
  go_wp2_with fail
  have kb := ba1 w (.cells #[.bool pr, .slice A n c, .slice D k d] 26)
  have P_r := heap_alloc_new w (.cells #[.bool pr, .slice A n c, .slice D k d] 26)
  generalize w.alloc (.cells #[.bool pr, .slice A n c, .slice D k d] 26) = W1 at kb P_r ⊢
  refine (H1.out _ (RR.out _ kb).1 (RR.out _ kb).2.1).mono ?_
  rintro e W2 ⟨rfl, hb⟩
  replace P_r := rblk_below P_r hb
  replace kb := bt kb hb
  clear hb
  have c_r0 : W2.cell? ⟨w.heap.size, 0, none⟩ = some (.bool pr) := rblk_cell P_r 0
  have c_r1 : W2.cell? ⟨w.heap.size, 1, none⟩ = some (.slice A n c) := rblk_cell P_r 1
  have c_r2 : W2.cell? ⟨w.heap.size, 2, none⟩ = some (.slice D k d) := rblk_cell P_r 2
  go_wp2_with fail
  clear c_r0 c_r1 c_r2
  refine (HF.out _ (RR.out _ kb).1 (RR.out _ kb).2.2).mono ?_
  rintro e W3 ⟨rfl, hb⟩
  replace P_r := rblk_below P_r hb
  replace kb := bt kb hb
  clear hb
  have c_r0 : W3.cell? ⟨w.heap.size, 0, none⟩ = some (.bool pr) := rblk_cell P_r 0
  have c_r1 : W3.cell? ⟨w.heap.size, 1, none⟩ = some (.slice A n c) := rblk_cell P_r 1
  have c_r2 : W3.cell? ⟨w.heap.size, 2, none⟩ = some (.slice D k d) := rblk_cell P_r 2
  go_wp2_with fail
  clear c_r0 c_r1 c_r2
  refine (HO.out _ (RR.out _ kb).2.1).mono ?_
  rintro e W4 ⟨rfl, hb⟩
  replace P_r := rblk_below P_r hb
  replace kb := bt kb hb
  clear hb
  have c_r0 : W4.cell? ⟨w.heap.size, 0, none⟩ = some (.bool pr) := rblk_cell P_r 0
  have c_r1 : W4.cell? ⟨w.heap.size, 1, none⟩ = some (.slice A n c) := rblk_cell P_r 1
  have c_r2 : W4.cell? ⟨w.heap.size, 2, none⟩ = some (.slice D k d) := rblk_cell P_r 2
  go_wp2_with fail
  clear c_r0 c_r1 c_r2
  refine (HN.out _ (RR.out _ kb).2.1 (RR.out _ kb).2.2).mono ?_
  rintro e W5 ⟨rfl, hb⟩
  replace P_r := rblk_below P_r hb
  replace kb := bt kb hb
  clear hb
  go_wp2_with fail
  refine (HJ.out _ _ (box0 W5 9 _ _) (box1 W5 9 _ _) (by simp)).mono ?_
  rintro e w6 ⟨rfl, hb6⟩
  replace kb := kb.trans (((ba1 _ _).trans (hb6.mono (by rw [sz1]; omega))).mono kb.size)
  go_wp2
  go_ret
  exact ⟨rfl, kb⟩

theorem impl_fmtR (pr : Bool) (l m : List Int) (A D : Option Addr) (n k c d : Nat) (w : World) (hl : l.length = n) (hm : m.length = k) (hn : n ≤ 9223372036854775807) (hk : k ≤ 9223372036854775807) (htab : Lib.TabIs Tryz.prog w "internal/strconv.uint64pow10" .u64 Lib.pow10Tab) (hA : RdS w A (vi l)) (hD : RdS w D (vi m)) :
    Calls Tryz.prog 11 #[.agg #[.bool pr, .slice A n c, .slice D k d]] w fun e w' => e = .returned (.string ⟨(fmtR pr l m).toArray⟩) ∧ Below w.heap.size w w' := by
  by_cases h1 : okR pr l m = true
  · by_cases h2 : decide (m = [1]) = true
    · rw [show fmtR pr l m = fmtB pr l by unfold fmtR; rw [h1, if_pos rfl, if_pos (of_decide_eq_true h2)]]
      exact impl_fmtR_one pr l m A D n k c d w hl hm hn hk htab hA hD h1 h2
    · have h2' : decide (m = [1]) = false := by simpa using h2
      rw [show fmtR pr l m = fmtB pr l ++ 47 :: fmtL m by unfold fmtR; rw [h1, if_pos rfl, if_neg (of_decide_eq_false h2')]]
      exact impl_fmtR_two pr l m A D n k c d w hl hm hn hk htab hA hD h1 h2'
  · have h1' : okR pr l m = false := by simpa using h1
    rw [show fmtR pr l m = [] by unfold fmtR; rw [h1']; rfl]
    exact impl_fmtR_no pr l m A D n k c d w hl hm hn hk htab hA hD h1'
end Go.Proofs.YtpmndiajecmfcabGreatDoor

