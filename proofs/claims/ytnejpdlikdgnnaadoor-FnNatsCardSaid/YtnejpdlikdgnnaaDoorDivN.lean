/-
  'impl.NatDiv'.
-/
import Derived.Test.YtnejpdlikdgnnaaDoorDivR
import Derived.Test.YtnejpdlikdgnnaaDoorArI
namespace Go.Proofs.YtnejpdlikdgnnaaDoor
open Go.ChangeShapes Go.WideShapes Go.ChangeAt Go.RowKit
open Go.ChangeMaps (open_string shut_string)
set_option linter.unusedVariables false
set_option linter.unusedSimpArgs false
set_option maxRecDepth 4000

/-- As MadeI; and it is known in which block the row lies. -/
def MadeAt (B g : Nat) (L : List Int) (w : World) (e : Ending) (w' : World) : Prop :=
  ∃ A c, e = .returned (.slice A L.length c) ∧ L.length ≤ c ∧ OwnS B w' A (vi L) ∧ Below w.heap.size w w' ∧ (L = [] ∨ A = some ⟨g, 0, none⟩)

set_option maxHeartbeats 800000 in
theorem natOfRow_at (B g n c T : Nat) (w : World) (hBg : B ≤ g) (hb : Blk w g (row n T)) (hT : ln T ≤ n) (hc : n ≤ c) (hn : n ≤ 1048576) (hcm : c ≤ 1048576) :
    Calls Tryd.prog 28 #[.slice (some ⟨g, 0, none⟩) n c] w (MadeAt B g (cap60 T) w) := by
  go_enter Tryd.func28, Tryd.ntmps28
  go_wp2
  go_loop [3] (fun i => ∃ k : Nat, k ≤ n ∧ ln T ≤ k ∧ i = .int .i64 (k : Int)) (fun i => (intOf i).toNat)
  case atStart => exact ⟨n, Nat.le_refl _, hT, rfl⟩
  case round =>
    obtain ⟨k, hk, hTk, rfl⟩ := hrel
    by_cases hz : 0 < k ∧ dgt T (k - 1) = 0
    · have hc1 := hb.cell (row_get (n := n) (i := k - 1) T (by omega))
      have h2 := trim_step hz.1 hTk hz.2
      have hp := hz.1
      rw [hz.2] at hc1
      have hk1 : ((k : Int) - 1) = ((k - 1 : Nat) : Int) := by omega
      have hk0 : (0 : Int) ≤ (k : Int) - 1 := by omega
      have hk2 : (k : Int) - 1 < (n : Int) := by omega
      have hkt : ((k : Int) - 1).toNat = k - 1 := by omega
      clear hz
      go_wp2
      go_round
      case rel => exact ⟨k - 1, by omega, h2, by go_num⟩
      case measure => simp [intOf]; omega
    · have hkT : Hid (ln T = k) := by
        refine Lib.hid ?_
        by_cases h0 : 0 < k
        · exact trim_stop h0 hTk (fun e => hz ⟨h0, e⟩)
        · omega
      have fin : k ≤ 60 → MadeAt B g (cap60 T) w (.returned (.slice (some ⟨g, 0, none⟩) k k)) w := fun h => by
        rw [cap60_in (by rw [hkT.out]; exact h)]
        refine ⟨some ⟨g, 0, none⟩, k, by rw [nd_length, hkT.out], by rw [nd_length, hkT.out]; exact Nat.le_refl _, ?_, Below.refl _ _, .inr rfl⟩
        have h1 := (hb.own hBg).take k
        rw [← vi_take, row_take T hk] at h1
        unfold nd
        rw [hkT.out]
        exact h1
      by_cases h0 : 0 < k
      · have hc1 := hb.cell (row_get (n := n) (i := k - 1) T (by omega))
        have hne : dgt T (k - 1) ≠ 0 := fun e => hz ⟨h0, e⟩
        have hk1 : ((k : Int) - 1) = ((k - 1 : Nat) : Int) := by omega
        clear hz
        generalize dgt T (k - 1) = x at hc1 hne
        have q : (x == 0) = false := by rw [beq_eq_false_iff_ne]; exact hne
        by_cases h60 : 60 < k
        · go_wp2
          go_ret
          rw [cap60_out (by rw [hkT.out]; exact h60)]
          exact ⟨none, 0, rfl, Nat.le_refl _, .inl rfl, Below.refl _ _, .inl rfl⟩
        · go_wp2
          go_ret
          exact fin (by omega)
      · obtain rfl : k = 0 := by omega
        go_wp2
        go_ret
        exact fin (by omega)


/-- Two rows of the call's own, in two blocks. -/
def Pair2 (B : Nat) (L M : List Int) (w : World) (e : Ending) (w' : World) : Prop :=
  ∃ A c D d, e = .returned (.tuple #[.slice A L.length c, .slice D M.length d]) ∧ L.length ≤ c ∧ M.length ≤ d ∧ OwnS B w' A (vi L) ∧ OwnS B w' D (vi M) ∧ Below w.heap.size w w' ∧ (∀ g g', rowOf L.length A = some g → rowOf M.length D = some g' → g ≠ g')
theorem Pair2.nil (B : Nat) (w : World) : Pair2 B [] [] w (.returned (.tuple #[.slice none 0 0, .slice none 0 0])) w :=
  ⟨none, 0, none, 0, rfl, Nat.le_refl _, Nat.le_refl _, .inl rfl, .inl rfl, Below.refl _ _, fun g g' h => by simp [rowOf] at h⟩
theorem rowOf_at {L : List Int} {A : Option Addr} {g g' : Nat} (h : L = [] ∨ A = some ⟨g, 0, none⟩) (hr : rowOf L.length A = some g') : g' = g := by
  rcases h with h | h
  · subst h; simp [rowOf] at hr
  · subst h
    unfold rowOf at hr
    split at hr
    · cases hr
    · simp at hr; exact hr.symm

set_option maxHeartbeats 800000 in
theorem impl_div (a b : Nat) (A D : Option Addr) (n c n' d : Nat) (w : World) (hn : ln a = n) (hn' : ln b = n') (h60 : n ≤ 60) (h60' : n' ≤ 60) (hb0 : 0 < n') (hA : RdS w A (vi (nd a))) (hD : RdS w D (vi (nd b))) :
    Calls Tryd.prog 7 #[.slice A n c, .slice D n' d] w (Pair2 w.heap.size (nd (a / b)) (nd (a % b)) w) := by
  have H1 := are_any (nd a) (nd b) A D n c n' d w (by rw [nd_length, hn]) (by rw [nd_length, hn']) (by omega) (by omega) hA hD
  rw [nd_ok (by omega), nd_ok (by omega)] at H1
  have H2 := Lib.hid (copy_int a A n c 1 1 w rfl hn (by omega) (by omega) hA)
  have HDv := Lib.hid (fun g W (hB : Blk W g (row (n + 1) a)) (hDW : RdS W D (vi (nd b))) (hDg : ∀ bl o, D = some ⟨bl, o, none⟩ → bl ≠ g) => divideRow_any a b (n + 1) n' g d D W hn' hb0 (by omega) (by omega) (by omega) hB hDW hDg)
  have hbb := ln_big hn' hb0
  have hpp := pn_pos (n' - 1)
  have hq : ln (a / b) ≤ n + 1 - n' := by
    refine pn_lt ?_
    rw [Nat.div_lt_iff_lt_mul (by omega)]
    have h1 : a < pn n := lt_pn (by omega)
    rcases Nat.lt_or_ge (n + 1) n' with h | h
    · have h2 : pn n ≤ pn (n' - 1) := Nat.pow_le_pow_right (by decide) (by omega)
      rw [show n + 1 - n' = 0 by omega]
      show a < 1 * b
      omega
    · have h2 : pn (n + 1 - n') * pn (n' - 1) = pn n := by unfold pn; rw [← Nat.pow_add]; congr 1; omega
      have h3 : pn (n + 1 - n') * pn (n' - 1) ≤ pn (n + 1 - n') * b := Nat.mul_le_mul_left _ hbb
      omega
  have hr : ln (a % b) ≤ n + 1 := by have := ln_mono (Nat.mod_le a b); omega
  have hq60 : cap60 (a / b) = nd (a / b) := cap60_in (by have := ln_mono (Nat.div_le_self a b); omega)
  have hr60 : cap60 (a % b) = nd (a % b) := cap60_in (by have := ln_mono (Nat.mod_le a b); omega)
  have HQ := Lib.hid hq
  have HR := Lib.hid hr
  have HQ6 := Lib.hid hq60
  have HR6 := Lib.hid hr60
  have hDn : ∀ bl o, D = some ⟨bl, o, none⟩ → bl < w.heap.size := fun bl o e => by
    obtain ⟨b', o', ha, hb, _⟩ := hD.block (by rw [vi_length, nd_length, hn']; exact hb0)
    rw [e] at ha
    injection ha with ha
    injection ha with h1 h2
    omega
  have HDn := Lib.hid hDn
  have hn0 : ((n' : Int) == 0) = false := by rw [beq_eq_false_iff_ne]; omega
  clear hn hn' hq hr hq60 hr60 hbb hpp hDn
  go_enter Tryd.func7, Tryd.ntmps7
  go_wp2_with fail
  refine H1.mono ?_
  rintro e w1 ⟨rfl, rfl⟩
  go_wp2_with fail
  refine H2.out.mono ?_
  rintro e w1 ⟨g, hg, rfl, hB1, hb1⟩
  go_wp2_with fail
  refine (HDv.out g w1 hB1 (hD.below hb1) (fun bl o e => by have := HDn.out bl o e; omega)).mono ?_
  rintro e w2 ⟨gq, hgq, rfl, hBq, hBr, hgr2⟩
  have hb2 : Below w.heap.size w w2 := below_g hb1 hg hgr2
  have hgg : gq ≠ g := by have := hB1.lt; omega
  go_wp2_with fail
  refine (natOfRow_at w.heap.size gq _ _ (a / b) w2 (Nat.le_trans hb1.size hgq) hBq HQ.out (Nat.le_refl _) (by omega) (by omega)).mono ?_
  intro e w3 hm
  rw [HQ6.out] at hm
  obtain ⟨A3, c3, rfl, hc3, ho3, hb3, hat3⟩ := hm
  have hBr3 := hBr.below hBr.lt hb3
  go_wp2_with fail
  refine (natOfRow_at w.heap.size g _ _ (a % b) w3 hg hBr3 HR.out (Nat.le_refl _) (by omega) (by omega)).mono ?_
  intro e w4 hm
  rw [HR6.out] at hm
  obtain ⟨A4, c4, rfl, hc4, ho4, hb4, hat4⟩ := hm
  go_wp2_with fail
  go_ret2
  refine ⟨A3, c3, A4, c4, rfl, hc3, hc4, ho3.below hb4, ho4, bt (bt hb2 hb3) hb4, fun g1 g2 h1 h2 => ?_⟩
  rw [rowOf_at hat3 h1, rowOf_at hat4 h2]
  exact hgg
end Go.Proofs.YtnejpdlikdgnnaaDoor
