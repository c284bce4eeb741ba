/-
  'FormatBigInt', of the model and of the program.
-/
import Derived.Test.YtmmgcdfifcbabaaGreatDoorBigO
import Derived.Test.YtmmgcdfifcbabaaGreatDoorFNatI
namespace Go.Proofs.YtmmgcdfifcbabaaGreatDoor
open Go.ChangeShapes Go.WideShapes Go.ChangeAt Go.RowKit
open Go.ChangeMaps (open_string shut_string)
set_option linter.unusedVariables false
set_option linter.unusedSimpArgs false
set_option maxRecDepth 4000

/-- The text. -/
def fmtB (p : Bool) (l : List Int) : List UInt8 := if okB p l then (if p then 45 :: fmtL l else fmtL l) else []
theorem fmtL_len (l : List Int) : (fmtL l).length ≤ 1048576 := by
  unfold fmtL
  by_cases h : ok l = true
  · rw [if_pos h]
    obtain ⟨v, rfl, hv⟩ := ok_nd h
    rw [val_nd]
    unfold fmtN
    split
    · simp
    · have := ftx_len v (ln v) (ln v - 1)
      omega
  · rw [if_neg h]; simp

set_option maxHeartbeats 800000 in
theorem impl_fmtB_yes (p : Bool) (l : List Int) (A : Option Addr) (n c : Nat) (w : World) (hl : l.length = n) (hn : n ≤ 9223372036854775807) (hk : okB p l = true) (hA : RdS w A (vi l)) (htab : Lib.TabIs Tryz.prog w "internal/strconv.uint64pow10" .u64 Lib.pow10Tab) :
    Calls Tryz.prog 6 #[.agg #[.bool p, .slice A n c]] w fun e w' => e = .returned (.string ⟨(if p then 45 :: fmtL l else fmtL l).toArray⟩) ∧ Below w.heap.size w w' := by
  have H1 := Lib.hid (fun W h => impl_bok p l A n c W hl hn h)
  have H2 := Lib.hid (fun W h ht => impl_fmtNat l A n c W hl hn h ht)
  have HR : Hid (∀ W, Below w.heap.size w W → RdS W A (vi l) ∧ Lib.TabIs Tryz.prog W "internal/strconv.uint64pow10" .u64 Lib.pow10Tab) := Lib.hid (fun W hb => ⟨hA.below hb, tab_below hb htab⟩)
  have hlen := fmtL_len l
  rw [hk] at H1
  clear hk hl hA htab
  generalize fmtL l = T at H2 hlen ⊢
  have HJ := Lib.hid (fun bk W h0 h1 h2 => joinParts_two [45] T bk 2 W h0 h1 h2 (Nat.le_refl _) (by simp; omega))
  cases p
  · go_enter Tryz.func6, Tryz.ntmps6
    go_wp2_with fail
    have k0 := box0 w 25 (.bool false) (.slice A n c)
    have k1 := box1 w 25 (.bool false) (.slice A n c)
    have kb := ba1 w (.cells #[.bool false, .slice A n c] 25)
    generalize w.alloc (.cells #[.bool false, .slice A n c] 25) = W1 at k0 k1 kb ⊢
    refine (H1.out _ (HR.out _ kb).1).mono ?_
    rintro e w4 ⟨rfl, hb4⟩
    replace k0 := cell_kept k0 hb4
    replace k1 := cell_kept k1 hb4
    replace kb := bt kb hb4
    clear hb4
    go_wp2_with fail
    refine (H2.out _ (HR.out _ kb).1 (HR.out _ kb).2).mono ?_
    rintro e w5 ⟨rfl, hb5⟩
    replace k0 := cell_kept k0 hb5
    replace kb := bt kb hb5
    clear hb5
    go_wp2
    go_ret
    exact ⟨rfl, kb⟩
  · go_enter Tryz.func6, Tryz.ntmps6
    go_wp2_with fail
    have k0 := box0 w 25 (.bool true) (.slice A n c)
    have k1 := box1 w 25 (.bool true) (.slice A n c)
    have kb := ba1 w (.cells #[.bool true, .slice A n c] 25)
    generalize w.alloc (.cells #[.bool true, .slice A n c] 25) = W1 at k0 k1 kb ⊢
    refine (H1.out _ (HR.out _ kb).1).mono ?_
    rintro e w4 ⟨rfl, hb4⟩
    replace k0 := cell_kept k0 hb4
    replace k1 := cell_kept k1 hb4
    replace kb := bt kb hb4
    clear hb4
    go_wp2_with fail
    refine (H2.out _ (HR.out _ kb).1 (HR.out _ kb).2).mono ?_
    rintro e w5 ⟨rfl, hb5⟩
    replace k0 := cell_kept k0 hb5
    replace kb := bt kb hb5
    clear hb5
    go_wp2_with fail
    refine (HJ.out _ _ (box0 w5 9 _ _) (box1 w5 9 _ _) (by simp)).mono ?_
    rintro e w6 ⟨rfl, hb6⟩
    replace kb := kb.trans (((ba1 _ _).trans (hb6.mono (by rw [sz1]; omega))).mono kb.size)
    go_wp2
    go_ret
    exact ⟨rfl, kb⟩
theorem fmtB_no {p : Bool} {l : List Int} (h : okB p l = false) : fmtB p l = [] := by unfold fmtB; rw [h]; rfl
theorem fmtB_yes {p : Bool} {l : List Int} (h : okB p l = true) : fmtB p l = if p then 45 :: fmtL l else fmtL l := by unfold fmtB; rw [h]; rfl

set_option maxHeartbeats 800000 in
theorem impl_fmtB (p : Bool) (l : List Int) (A : Option Addr) (n c : Nat) (w : World) (hl : l.length = n) (hn : n ≤ 9223372036854775807) (hA : RdS w A (vi l)) (htab : Lib.TabIs Tryz.prog w "internal/strconv.uint64pow10" .u64 Lib.pow10Tab) :
    Calls Tryz.prog 6 #[.agg #[.bool p, .slice A n c]] w fun e w' => e = .returned (.string ⟨(fmtB p l).toArray⟩) ∧ Below w.heap.size w w' := by
  by_cases hk : okB p l = true
  · rw [fmtB_yes hk]
    exact impl_fmtB_yes p l A n c w hl hn hk hA htab
  · have hk' : okB p l = false := by simpa using hk
    rw [fmtB_no hk']
    have H1 := Lib.hid (fun W h => impl_bok p l A n c W hl hn h)
    rw [hk'] at H1
    clear hk hk' hl
    go_enter Tryz.func6, Tryz.ntmps6
    go_wp2_with fail
    refine (H1.out _ (hA.below (ba1 _ _))).mono ?_
    rintro e w4 ⟨rfl, hb4⟩
    have kb := (ba1 _ _).trans (hb4.mono (by rw [sz1]; omega))
    go_wp2
    go_ret
    exact ⟨rfl, kb⟩
end Go.Proofs.YtmmgcdfifcbabaaGreatDoor
