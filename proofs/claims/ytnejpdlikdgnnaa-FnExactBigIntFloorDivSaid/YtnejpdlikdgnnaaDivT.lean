/-
  'NatDiv' at whatever lists: the model and the program answer alike.
-/
import Derived.Test.YtnejpdlikdgnnaaDivS3
namespace Go.Proofs.Ytnejpdlikdgnnaa
open Go.ChangeShapes Go.WideShapes Go.ChangeAt Go.RowKit
open Go.ChangeMaps (open_string shut_string)
set_option linter.unusedVariables false
set_option linter.unusedSimpArgs false
set_option maxRecDepth 4000

set_option maxHeartbeats 500000 in
theorem spec_div_one (a b : Nat) (A D : Option Addr) (n c d : Nat) (w : World) (hn : ln a = n) (hn' : ln b = 1) (h60 : n ≤ 60) (hA : RdS w A (vi (nd a))) (hD : RdS w D (vi (nd b))) :
    Calls Try.prog 60 #[.slice A n c, .slice D 1 d] w (PairS (nd (a / b)) (nd (a % b)) w) := by
  have hbp : b < 1000000000 := lt_pn (n := 1) (by omega)
  have hb0 : 0 < b := by
    rcases Nat.eq_zero_or_pos b with h | h
    · subst h; rw [ln_zero] at hn'; omega
    · exact h
  obtain ⟨b1, o1, rfl, hbl, e1⟩ := hD.int (nd_get (v := b) (i := 0) (by omega))
  have hd0 : dgt b 0 = (b : Int) := by unfold dgt; rw [div_zero]; omega
  rw [hd0, Nat.add_zero] at e1
  have HS := Lib.hid (fun W h => spec_small a b A n c W hn h60 hb0 hbp h)
  have hr : a % b < b := Nat.mod_lt _ hb0
  have HNo := Lib.hid (fun W => spec_natOf (a % b) W (by omega))
  obtain ⟨r, hrr⟩ : ∃ r, r = a % b := ⟨_, rfl⟩
  rw [← hrr] at HS HNo ⊢
  clear hn hn' hr hrr hd0
  generalize nd (a / b) = LQ at HS ⊢
  generalize nd r = LR at HNo ⊢
  go_enter Try.func60, Try.ntmps60
  go_wp2_with fail
  refine (HS.out _ hA).mono ?_
  rintro e w1 ⟨A1, c1, rfl, hc1, ho1, hb1⟩
  go_wp2_with fail
  refine (HNo.out _).mono ?_
  rintro e w2 ⟨A2, c2, rfl, hc2, ho2, hb2⟩
  go_wp2_with fail
  go_ret2
  exact ⟨A1, c1, A2, c2, rfl, hc1, ho1.below hb2, ho2.more hb1.size, bt hb1 hb2⟩

theorem spec_div_any (a b : Nat) (A D : Option Addr) (n c n' d : Nat) (w : World) (hn : ln a = n) (hn' : ln b = n') (h60 : n ≤ 60) (h60' : n' ≤ 60) (h0 : 0 < n') (hA : RdS w A (vi (nd a))) (hD : RdS w D (vi (nd b))) :
    Calls Try.prog 60 #[.slice A n c, .slice D n' d] w (PairS (nd (a / b)) (nd (a % b)) w) := by
  by_cases h1 : n' = 1
  · subst h1
    exact spec_div_one a b A D n c d w hn hn' h60 hA hD
  · exact spec_div_long a b A D n c n' d w hn hn' h60 h60' (by omega) hA hD

/-- Whether 'NatDiv' has an answer. -/
def okD (l m : List Int) : Bool := ok l && ok m && decide (m ≠ [])
def divQ (l m : List Int) : List Int := if okD l m then nd (val l / val m) else []
def divR (l m : List Int) : List Int := if okD l m then nd (val l % val m) else []
theorem div_no {l m : List Int} (h : okD l m = false) : divQ l m = [] ∧ divR l m = [] := by unfold divQ divR; rw [h]; exact ⟨rfl, rfl⟩
theorem div_yes {a b : Nat} (h : okD (nd a) (nd b) = true) : divQ (nd a) (nd b) = nd (a / b) ∧ divR (nd a) (nd b) = nd (a % b) := by unfold divQ divR; rw [h, val_nd, val_nd]; exact ⟨rfl, rfl⟩
theorem PairS.nil (w : World) : PairS [] [] w (.returned (.tuple #[.slice none 0 0, .slice none 0 0])) w := ⟨none, 0, none, 0, rfl, Nat.le_refl _, .inl rfl, .inl rfl, Below.refl _ _⟩
theorem div_len (l m : List Int) : (divQ l m).length ≤ 60 ∧ (divR l m).length ≤ 60 := by
  by_cases h : okD l m = true
  · have h' := h
    unfold okD at h'
    simp only [Bool.and_eq_true] at h'
    obtain ⟨a, rfl, ha⟩ := ok_nd h'.1.1
    obtain ⟨b, rfl, hb⟩ := ok_nd h'.1.2
    rw [(div_yes h).1, (div_yes h).2, nd_length, nd_length]
    have h1 := ln_mono (Nat.div_le_self a b)
    have h2 := ln_mono (Nat.mod_le a b)
    omega
  · have h' : okD l m = false := by simpa using h
    rw [(div_no h').1, (div_no h').2]
    simp

set_option maxHeartbeats 500000 in
theorem impl_divL (l m : List Int) (A D : Option Addr) (n c n' d : Nat) (w : World) (hl : l.length = n) (hm : m.length = n') (hn : n ≤ 9223372036854775807) (hn' : n' ≤ 9223372036854775807) (hA : RdS w A (vi l)) (hD : RdS w D (vi m)) :
    Calls Try.prog 63 #[.slice A n c, .slice D n' d] w (Pair2 w.heap.size (divQ l m) (divR l m) w) := by
  have H1 := are_any l m A D n c n' d w hl hm hn hn' hA hD
  by_cases h : (ok l && ok m) = true
  · by_cases h3 : n' = 0
    · rw [h] at H1
      have hk : okD l m = false := by unfold okD; rw [List.eq_nil_of_length_eq_zero (hm.trans h3)]; simp
      rw [(div_no hk).1, (div_no hk).2]
      subst h3
      clear hk h hl hm
      go_enter Try.func63, Try.ntmps63
      go_wp2_with fail
      refine H1.mono ?_
      rintro e w1 ⟨rfl, rfl⟩
      go_wp2_with fail
      go_ret2
      exact Pair2.nil _ _
    · have hk : okD l m = true := by
        unfold okD
        rw [h, decide_eq_true (by rintro rfl; exact h3 hm.symm)]
        rfl
      rw [Bool.and_eq_true] at h
      obtain ⟨a, rfl, ha⟩ := ok_nd h.1
      obtain ⟨b, rfl, hb⟩ := ok_nd h.2
      rw [(div_yes hk).1, (div_yes hk).2]
      rw [nd_length] at hl hm
      exact impl_div a b A D n c n' d w hl hm (by omega) (by omega) (by omega) hA hD
  · have h' : (ok l && ok m) = false := by simpa using h
    rw [h'] at H1
    have hk : okD l m = false := by unfold okD; rw [h']; rfl
    rw [(div_no hk).1, (div_no hk).2]
    clear h h' hl hm hk
    go_enter Try.func63, Try.ntmps63
    go_wp2_with fail
    refine H1.mono ?_
    rintro e w1 ⟨rfl, rfl⟩
    go_wp2_with fail
    go_ret2
    exact Pair2.nil _ _
end Go.Proofs.Ytnejpdlikdgnnaa
