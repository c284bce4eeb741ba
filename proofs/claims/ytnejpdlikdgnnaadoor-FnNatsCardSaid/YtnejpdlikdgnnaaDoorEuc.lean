/-
  'euclidSteps' of the program.
-/
import Derived.Test.YtnejpdlikdgnnaaDoorComb
namespace Go.Proofs.YtnejpdlikdgnnaaDoor
open Go.ChangeShapes Go.WideShapes Go.ChangeAt Go.RowKit
open Go.ChangeMaps (open_string shut_string)
set_option linter.unusedVariables false
set_option linter.unusedSimpArgs false
set_option maxRecDepth 4000

/-- Two rows to be read. -/
def EucPost (a b : Nat) (w : World) (e : Ending) (w' : World) : Prop :=
  ∃ (X Y cx cy : Nat) (AX AY : Option Addr), e = .returned (.tuple #[.slice AX (nd X).length cx, .slice AY (nd Y).length cy]) ∧ RdS w' AX (vi (nd X)) ∧ RdS w' AY (vi (nd Y)) ∧ Nat.gcd X Y = Nat.gcd a b ∧ Y ≤ X ∧ Y < b ∧ X ≤ a ∧ Below w.heap.size w w'

theorem top3_lt {T n : Nat} (h : 1 ≤ n) : top3N T n < ((dgz T n).toNat + 1) * 1000000000000000000 := by
  have := dgz_nonneg T n
  have := dgz_nonneg T ((n : Int) - 1)
  have := dgz_nonneg T ((n : Int) - 2)
  have := dgz_lt T ((n : Int) - 1)
  have := dgz_lt T ((n : Int) - 2)
  unfold top3N
  omega

theorem held_four {wr W w1 : World} {g : Nat} {a b c d : Value} (hg : g < wr.heap.size) (h0 : W.cell? ⟨g, 0, none⟩ = some a) (h1 : W.cell? ⟨g, 1, none⟩ = some b) (h2 : W.cell? ⟨g, 2, none⟩ = some c) (h3 : W.cell? ⟨g, 3, none⟩ = some d) (h4 : Below wr.heap.size wr W) (hb : Below W.heap.size W w1) :
    w1.cell? ⟨g, 0, none⟩ = some a ∧ w1.cell? ⟨g, 1, none⟩ = some b ∧ w1.cell? ⟨g, 2, none⟩ = some c ∧ w1.cell? ⟨g, 3, none⟩ = some d ∧ Below wr.heap.size wr w1 := by
  have hl : g < W.heap.size := Nat.lt_of_lt_of_le hg h4.size
  exact ⟨by rw [hb.cell (p := ⟨g, 0, none⟩) hl]; exact h0, by rw [hb.cell (p := ⟨g, 1, none⟩) hl]; exact h1, by rw [hb.cell (p := ⟨g, 2, none⟩) hl]; exact h2, by rw [hb.cell (p := ⟨g, 3, none⟩) hl]; exact h3, h4.trans (hb.mono h4.size)⟩

def CombPost (f g : Int) (a b : Nat) (w : World) (e : Ending) (w' : World) : Prop :=
  ∃ (Z : Nat) (A : Option Addr) (c : Nat), e = .returned (.slice A (nd Z).length c) ∧ f * (a : Int) + g * (b : Int) = (Z : Int) ∧ RdS w' A (vi (nd Z)) ∧ Below w.heap.size w w'

theorem comb_two (a b X Y : Nat) (fa fb na nb f g : Int) (A D : Option Addr) (n c n' d : Nat) (w : World) (hn : ln a = n) (hn' : ln b = n') (h60 : n ≤ 60) (h60' : n' ≤ 60) (hX : fa * (a : Int) + fb * (b : Int) = (X : Int)) (hY : na * (a : Int) + nb * (b : Int) = (Y : Int)) (hXn : ln X ≤ n) (hYn : ln Y ≤ n)
    (h1 : -1000000000 ≤ fa ∧ fa ≤ 1000000000) (h2 : -1000000000 ≤ fb ∧ fb ≤ 1000000000) (h3 : -1000000000 ≤ na ∧ na ≤ 1000000000) (h4 : -1000000000 ≤ nb ∧ nb ≤ 1000000000) (hfg : (f = fa ∧ g = fb) ∨ (f = na ∧ g = nb)) (hA : RdS w A (vi (nd a))) (hD : RdS w D (vi (nd b))) :
    Calls Tryd.prog 66 #[.int .i64 f, .slice A n c, .int .i64 g, .slice D n' d] w (CombPost f g a b w) := by
  rcases hfg with ⟨rfl, rfl⟩ | ⟨rfl, rfl⟩
  · exact (comb_any a b X f g A D n c n' d w hn hn' h60 h60' hX hXn h1.1 h1.2 h2.1 h2.2 hA hD).mono fun e w' ⟨AX, cX, he, _, hO, hb⟩ => ⟨X, AX, cX, he, hX, hO.rd, hb⟩
  · exact (comb_any a b Y f g A D n c n' d w hn hn' h60 h60' hY hYn h3.1 h3.2 h4.1 h4.2 hA hD).mono fun e w' ⟨AX, cX, he, _, hO, hb⟩ => ⟨Y, AX, cX, he, hY, hO.rd, hb⟩

theorem quo64_lt {N d : Nat} (h : N < d * 1000000000000000000) : N / 18446744073709551616 < d := by
  apply Nat.div_lt_of_lt_mul
  omega

set_option maxHeartbeats 400000 in
theorem euc_any (a b : Nat) (A D : Option Addr) (n c n' d : Nat) (w : World) (hn : ln a = n) (hn' : ln b = n') (h60 : n ≤ 60) (h3 : 3 ≤ n) (hba : b ≤ a) (hb0 : 0 < b) (hA : RdS w A (vi (nd a))) (hD : RdS w D (vi (nd b))) :
    Calls Tryd.prog 38 #[.slice A n c, .slice D n' d] w (EucPost a b w) := by
  have hnn : n' ≤ n := by have := ln_mono hba; omega
  obtain ⟨t, ht⟩ : ∃ t : Nat, dgt a (n - 1) = (t : Int) := ⟨(dgt a (n - 1)).toNat, by have := dgt_nonneg a (n - 1); omega⟩
  have ht1 : t < 1000000000 := by have := dgt_lt a (n - 1); omega
  have e0 : ((n : Int) - 1) = ((n - 1 : Nat) : Int) := by omega
  have hza : dgz (a : Int) ((n - 1 : Nat) : Int) = (t : Int) := by unfold dgz; rw [if_neg (by omega), Int.toNat_natCast, ht]
  obtain ⟨Na, hNa⟩ : ∃ N, N = top3N a (n - 1) := ⟨_, rfl⟩
  obtain ⟨Nb, hNb⟩ : ∃ N, N = top3N b (n - 1) := ⟨_, rfl⟩
  have dNa : Na = a / pn (n - 3) := by rw [hNa, top3_div (by omega) (by omega), show n - 1 - 2 = n - 3 by omega]
  have dNb : Nb = b / pn (n - 3) := by rw [hNb, top3_div (by omega) (by omega), show n - 1 - 2 = n - 3 by omega]
  have hNab : Nb ≤ Na := by rw [dNa, dNb]; exact Nat.div_le_div_right hba
  have hNat : Na < (t + 1) * 1000000000000000000 := by
    have h1 := top3_lt (T := a) (n := n - 1) (by omega)
    rw [hza, ← hNa, Int.toNat_natCast] at h1
    exact h1
  have hI : ∀ T : Nat, ((top3N T (n - 1) : Nat) : Int) = (dgz (T : Int) ((n : Int) - 1) * 1000000000 + dgz (T : Int) ((n : Int) - 1 - 1)) * 1000000000 + dgz (T : Int) ((n : Int) - 1 - 2) := fun T => by
    have q0 := dgz_nonneg T ((n - 1 : Nat) : Int)
    have q1 := dgz_nonneg T (((n - 1 : Nat) : Int) - 1)
    have q2 := dgz_nonneg T (((n - 1 : Nat) : Int) - 2)
    rw [e0]
    unfold top3N
    omega
  obtain ⟨x, hx⟩ : ∃ x, x = Na / (t + 1) := ⟨_, rfl⟩
  obtain ⟨y, hy⟩ : ∃ y, y = Nb / (t + 1) := ⟨_, rfl⟩
  have hxb : x < 1000000000000000000 := by rw [hx, Nat.div_lt_iff_lt_mul (by omega), Nat.mul_comm]; exact hNat
  have hyx : y ≤ x := by rw [hx, hy]; exact Nat.div_le_div_right hNab
  have HTA := Lib.hid (fun W h => divideTop_any a n c A ((n : Int) - 1) (t + 1) Na W (by omega) (by omega) h (by omega) (by omega) (by omega) (by omega) (by rw [hNa]; exact hI a) (quo64_lt hNat) (by rw [← hx]; omega))
  have HTB := Lib.hid (fun W h => divideTop_any b n' d D ((n : Int) - 1) (t + 1) Nb W (by omega) (by omega) h (by omega) (by omega) (by omega) (by omega) (by rw [hNb]; exact hI b) (quo64_lt (Nat.lt_of_le_of_lt hNab hNat)) (by rw [← hy]; omega))
  rw [← hx] at HTA
  rw [← hy] at HTB
  obtain ⟨DD, hDD⟩ : ∃ D, D = pn (n - 3) * (t + 1) := ⟨_, rfl⟩
  have hDp : 0 < DD := by rw [hDD]; exact Nat.mul_pos (pn_pos _) (by omega)
  have hxA : x = a / DD := by rw [hx, dNa, hDD, Nat.div_div_eq_div_mul]
  have hyB : y = b / DD := by rw [hy, dNb, hDD, Nat.div_div_eq_div_mul]
  have hAe : (a : Int) = (x : Int) * (DD : Int) + ((a % DD : Nat) : Int) := by
    have := Nat.div_add_mod a DD
    rw [hxA, ← Int.natCast_mul, Nat.mul_comm]
    omega
  have hBe : (b : Int) = (y : Int) * (DD : Int) + ((b % DD : Nat) : Int) := by
    have := Nat.div_add_mod b DD
    rw [hyB, ← Int.natCast_mul, Nat.mul_comm]
    omega
  have hm1 := Nat.mod_lt a hDp
  have hm2 := Nat.mod_lt b hDp
  have HCe := Lib.hid (fun W => cert_any x y (a : Int) (b : Int) (DD : Int) ((a % DD : Nat) : Int) ((b % DD : Nat) : Int) W hxb hyx (by omega) (by omega) hAe hBe (by omega) (by omega) (by omega) (by omega) (by omega))
  have HDi := Lib.hid (fun W h h' => impl_div a b A D n c n' d W hn hn' h60 (by omega) (by rw [← hn', ln_pos hb0]; omega) h h')
  obtain ⟨b1, o1, hAo, hbl, e1⟩ := hA.int (nd_get (v := a) (i := n - 1) (by omega))
  subst hAo
  rw [ht] at e1
  have HAr : Hid (∀ W, Below w.heap.size w W → RdS W (some ⟨b1, o1, none⟩) (vi (nd a)) ∧ RdS W (some ⟨b1, o1, none⟩) (vi (row n a))) := Lib.hid (fun W hb => ⟨hA.below hb, by have := hA.below hb; rwa [nd, hn] at this⟩)
  have HDr : Hid (∀ W, Below w.heap.size w W → RdS W D (vi (nd b)) ∧ RdS W D (vi (row n' b))) := Lib.hid (fun W hb => ⟨hD.below hb, by have := hD.below hb; rwa [nd, hn'] at this⟩)
  have HNs := Lib.hid (And.intro hn hn')
  have hkt : ((n : Int) - 1).toNat = n - 1 := by omega
  have hi0 : (0 : Int) ≤ (n : Int) - 1 := by omega
  have hi1 : (n : Int) - 1 < (n : Int) := by omega
  have hsc : (t : Int) + 1 = ((t + 1 : Nat) : Int) := by omega
  clear hNat hNab dNa dNb hx hy hxA hyB hAe hBe hm1 hm2 hI hza ht hn hn' hNa hNb hDD hA hD e0
  generalize hsv : t + 1 = sc at HTA HTB hsc
  clear hsv
  go_enter Tryd.func38, Tryd.ntmps38
  go_wp2_with fail
  refine (HTA.out _ (HAr.out _ (Below.refl _ _)).2).mono ?_
  rintro e w1 ⟨rfl, hb1⟩
  go_wp2_with fail
  refine (HTB.out _ (HDr.out _ hb1).2).mono ?_
  rintro e w2 ⟨rfl, hb2⟩
  have hb2' := bt hb1 hb2
  go_wp2_with fail
  refine (HCe.out _).mono ?_
  rintro e w3 ⟨fa, fb, na, nb, xa, yb, X, Y, rfl, hL, hC, hb3⟩
  have hb3' := bt hb2' hb3
  have hp := hL.pos
  obtain ⟨X, rfl⟩ : ∃ k : Nat, X = (k : Int) := ⟨X.toNat, by omega⟩
  obtain ⟨Y, rfl⟩ : ∃ k : Nat, Y = (k : Int) := ⟨Y.toNat, by omega⟩
  have HF : Hid (Nat.gcd X Y = Nat.gcd a b ∧ Y ≤ X ∧ (fb ≠ 0 → Y < b) ∧ X ≤ a) := Lib.hid ⟨hL.gcd, by omega, fun h => by have := hL.less.2 h; omega, by omega⟩
  have hXe := hL.eX
  have hYe := hL.eY
  obtain ⟨⟨a1, a2⟩, ⟨b1', b2'⟩, ⟨c1, c2⟩, d1, d2⟩ := hC
  have hlX : ln X ≤ n := by have := ln_mono (show X ≤ a by omega); have := HNs.out.1; omega
  have hlY : ln Y ≤ n := by have := ln_mono (show Y ≤ a by omega); have := HNs.out.1; omega
  have hb4 := hb3'.alloc hb3'.size (.cells #[.int .i64 fa, .int .i64 fb, .int .i64 na, .int .i64 nb] 78)
  have HC := Lib.hid (fun f g W (hfg : (f = fa ∧ g = fb) ∨ (f = na ∧ g = nb)) (h : RdS W (some ⟨b1, o1, none⟩) (vi (nd a))) (h' : RdS W D (vi (nd b))) => comb_two a b X Y fa fb na nb f g (some ⟨b1, o1, none⟩) D n c n' d W HNs.out.1 HNs.out.2 h60 (by omega) hXe.symm hYe.symm hlX hlY (by omega) (by omega) (by omega) (by omega) hfg h h')
  have HXY := Lib.hid (And.intro hXe hYe)
  have hh := heap_alloc_new w3 (.cells #[.int .i64 fa, .int .i64 fb, .int .i64 na, .int .i64 nb] 78)
  have hgl : w3.heap.size < (w3.alloc (.cells #[.int .i64 fa, .int .i64 fb, .int .i64 na, .int .i64 nb] 78)).heap.size := by simp
  clear hL hp hXe hYe hlX hlY hb1 hb2 hb2' hb3 hb3'
  have HBb : Hid (0 < b ∧ b ≤ a ∧ ln b = n' ∧ n' ≤ n) := Lib.hid ⟨hb0, hba, HNs.out.2, hnn⟩
  by_cases hfb : fb = 0
  · subst hfb
    go_wp2_with fail
    refine (HDi.out _ (HAr.out _ hb4).1 (HDr.out _ hb4).1).mono ?_
    rintro e w5 ⟨A1, cA, A2, cR, rfl, -, -, hO1, hO2, hb5, -⟩
    have hb6 := bt hb4 hb5
    go_wp2
    go_ret2
    obtain ⟨q1, q2, q3, q4⟩ := HBb.out
    have hmlt := Nat.mod_lt a q1
    have hdl := (HDr.out _ hb6).1
    refine ⟨b, a % b, d, cR, D, A2, ?_, hdl, hO2.rd, ?_, Nat.le_of_lt hmlt, hmlt, q2, hb6⟩
    · rw [nd_length b, q3]; rfl
    · rw [Nat.gcd_comm a b, Nat.gcd_rec b a, Nat.gcd_comm b (a % b)]
  · have k0 := cell_of_row _ _ 0 _ _ (0, 0) hh
    have k1 := cell_of_row _ _ 1 _ _ (0, 0) hh
    have k2 := cell_of_row _ _ 2 _ _ (0, 0) hh
    have k3 := cell_of_row _ _ 3 _ _ (0, 0) hh
    replace k0 : _ = some (Value.int .i64 fa) := k0
    replace k1 : _ = some (Value.int .i64 fb) := k1
    replace k2 : _ = some (Value.int .i64 na) := k2
    replace k3 : _ = some (Value.int .i64 nb) := k3
    have hq : (fb == 0) = false := by simpa using hfb
    clear hh
    go_wp2_with fail
    generalize w3.alloc (.cells #[.int .i64 fa, .int .i64 fb, .int .i64 na, .int .i64 nb] 78) = W4 at *
    generalize w3.heap.size = g at *
    go_region_held3 (fun w' => w'.cell? ⟨g, 0, none⟩ = some (.int .i64 fa) ∧ w'.cell? ⟨g, 1, none⟩ = some (.int .i64 fb) ∧ w'.cell? ⟨g, 2, none⟩ = some (.int .i64 na) ∧ w'.cell? ⟨g, 3, none⟩ = some (.int .i64 nb) ∧ Below W4.heap.size W4 w')
      (first | (exact ⟨k0, k1, k2, k3, (Below.refl _ _).drew⟩) | (go_split_ands; exact held_four hgl (by assumption) (by assumption) (by assumption) (by assumption) (by assumption) hbc))
      (first | (go_at_call 66; go_split_ands; refine (HC.out _ _ _ (by first | exact .inl ⟨rfl, rfl⟩ | exact .inr ⟨rfl, rfl⟩) (HAr.out _ (bt hb4 (by assumption))).1 (HDr.out _ (bt hb4 (by assumption))).1).mono ?_; rintro e w5 ⟨Z, AX, cX, rfl, hZ, hOX, hbc⟩))
    rename_i wA ZA AA cA hZA hOA hbA l3 l2 l1 l0 hrA hHeld
    have hfin := hHeld.2.2.2.2
    clear hHeld l3 l2 l1 l0
    have eA : ZA = X := by have := hZA.symm.trans HXY.out.1.symm; omega
    have eY : Z = Y := by have := hZ.symm.trans HXY.out.2.symm; omega
    subst eA
    subst eY
    obtain ⟨f1, f2, f3, f4⟩ := HF.out
    have hOA' := hOA.below hbc
    have hb9 := bt hb4 hfin
    go_wp2
    go_ret2
    exact ⟨ZA, Z, cA, cX, AA, AX, rfl, hOA', hOX, f1, f2, f3 hfb, f4, hb9⟩
end Go.Proofs.YtnejpdlikdgnnaaDoor
