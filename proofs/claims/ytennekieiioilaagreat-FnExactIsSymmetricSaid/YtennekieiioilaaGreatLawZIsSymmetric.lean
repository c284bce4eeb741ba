/-
  The walk of the exact law of IsSymmetric.
-/
import Derived.Test.YtennekieiioilaaGreatLawZ
import Derived.Test.YtennekieiioilaaGreatTk
import Derived.Test.YtennekieiioilaaGreatSyS
import Derived.Test.YtennekieiioilaaGreatSyI
namespace Go.Proofs.YtennekieiioilaaGreat
open Go.ChangeShapes Go.WideShapes Go.ChangeAt Go.RowKit
open Go.ChangeMaps (open_string shut_string)
set_option linter.unusedVariables false
set_option linter.unusedSimpArgs false
set_option maxRecDepth 4000

set_option maxHeartbeats 4000000 in
theorem law_symm (L0 : List MR) (A0 : Option Addr) (c0 : Nat) (w : World) (hm0 : L0.length ≤ 9223372036854775807) (hL0 : ∀ p, p ∈ L0 → LenX p) (hA0 : RdS w A0 (flatX L0)) (hR0 : Rds w (lrowX L0)) :
    Calls Tryz.prog 5 #[.agg #[.slice A0 L0.length c0]] w fun e w' => e = .returned (.bool true) ∧ Below w.heap.size w w' := by
  have R : Hid (∀ W, Below w.heap.size w W → (RdS W A0 (flatX L0) ∧ Rds W (lrowX L0))) := Lib.hid (fun W hb => ⟨hA0.below hb, hR0.below hb⟩)
  by_cases hg0 : ((L0.length : Int) + szrs L0) ≤ 1048576
  · have zp0 := szrs_pos L0
    obtain ⟨hn0, hS0⟩ := szrs_facts (L := L0) (by omega)
    have SZ0 := Lib.hid (fun W h h2 => szMx_y L0 A0 c0 1048576 W (by omega) (by omega) (by omega) h h2)
    obtain ⟨l1, hl_1⟩ : ∃ l : Int, l = 1048576 - (L0.length : Int) - szrs L0 := ⟨_, rfl⟩
    rw [← hl_1] at SZ0
    have hs1 : ¬ l1 < 0 := by omega
    have T0 := Lib.hid (fun W h h' => toMx_r L0 A0 c0 W hn0 hS0 h h')
    have E0 := Lib.hid (fun M M' A A' c c' W hd hd' h h' => eqMx_d L0 M M' A A' c c' W hn0 hS0 hd hd' h h')
    have HS : Hid (∀ (M0 : List MR) (B0 : Option Addr) (k0 : Nat) (W : World), datX M0 = datX L0 → (∀ p, p ∈ M0 → CapX p) → Rds W (srowX B0 M0) → Calls Tryz.prog 22 #[.agg #[.slice B0 M0.length k0]] W (fun e w' => e = .returned (.bool (symB L0)) ∧ Below W.heap.size W w')) := Lib.hid (fun M0 B0 k0 W hd0 hc0 h0 => by
      have K := spec_symm M0 B0 k0 W (by rw [datX_len hd0]; omega) (fun p hp => (shortX_dat hS0 hd0 p hp).len) h0.hd h0.tl
      rw [symB_dat hd0] at K; exact K)
    have HI : Hid (∀ (M0 : List MR) (B0 : Option Addr) (k0 : Nat) (W : World), datX M0 = datX L0 → (∀ p, p ∈ M0 → CapX p) → Rds W (srowX B0 M0) → Calls Tryz.prog 23 #[.agg #[.slice B0 M0.length k0]] W (fun e w' => e = .returned (.bool (symB L0)) ∧ Below W.heap.size W w')) := Lib.hid (fun M0 B0 k0 W hd0 hc0 h0 => by
      have K := impl_symm M0 B0 k0 W (by rw [datX_len hd0]; omega) (fun p hp => (shortX_dat hS0 hd0 p hp).len) h0.hd h0.tl
      rw [symB_dat hd0] at K; exact K)
    generalize symB L0 = r at HS HI
    have q1 : (r != r) = false := by simp
    generalize hnn0 : L0.length = n0 at SZ0 T0 ⊢
    clear hnn0 hg0 hl_1 hA0 hR0 hL0 hn0 hS0 hm0 zp0
    unfold MadeMx at T0
    go_enter Tryz.func5, Tryz.ntmps5
    have kb := ba1 w (.cells #[.slice A0 n0 c0] 24)
    have P_bt1 := heap_alloc_new w (.cells #[.slice A0 n0 c0] 24)
    have c_bt10 : (w.alloc (.cells #[.slice A0 n0 c0] 24)).cell? ⟨w.heap.size, 0, none⟩ = some (.slice A0 n0 c0) := rblk_cell P_bt1 0
    go_wp2_with fail
    clear c_bt10
    have hzW1 : w.heap.size < (w.alloc (.cells #[.slice A0 n0 c0] 24)).heap.size := by simp only [sz1]; omega
    generalize w.alloc (.cells #[.slice A0 n0 c0] 24) = W1 at kb hzW1 P_bt1 ⊢
    refine (SZ0.out _ (R.out _ kb).1 (R.out _ kb).2).mono ?_
    rintro e W2 ⟨rfl, hb⟩
    have hzW2 : W1.heap.size ≤ W2.heap.size := hb.size
    replace P_bt1 := rblk_below P_bt1 hb
    replace kb := bt kb hb
    clear hb
    have c_bt10 : W2.cell? ⟨w.heap.size, 0, none⟩ = some (.slice A0 n0 c0) := rblk_cell P_bt1 0
    go_wp2_with fail
    clear c_bt10
    refine (T0.out _ (R.out _ kb).1 (R.out _ kb).2).mono ?_
    rintro e W3 ⟨M0az, A0az, c0az, rfl, hk0az, hd0az, hc0az, o0az, hap0az, hb⟩
    have hzW3 : W2.heap.size ≤ W3.heap.size := hb.size
    replace P_bt1 := rblk_below P_bt1 hb
    replace kb := bt kb hb
    clear hb
    go_wp2_with fail
    refine (HS.out M0az A0az c0az _ hd0az hc0az o0az.rds).mono ?_
    rintro e W4 ⟨rfl, hb⟩
    have hzW4 : W3.heap.size ≤ W4.heap.size := hb.size
    replace P_bt1 := rblk_below P_bt1 hb
    replace o0az := o0az.below hb
    replace kb := bt kb hb
    clear hb
    have c_bt10 : W4.cell? ⟨w.heap.size, 0, none⟩ = some (.slice A0 n0 c0) := rblk_cell P_bt1 0
    go_wp2_with fail
    clear c_bt10
    clear o0az
    refine (T0.out _ (R.out _ kb).1 (R.out _ kb).2).mono ?_
    rintro e W5 ⟨M0bz, A0bz, c0bz, rfl, hk0bz, hd0bz, hc0bz, o0bz, hap0bz, hb⟩
    have hzW5 : W4.heap.size ≤ W5.heap.size := hb.size
    replace P_bt1 := rblk_below P_bt1 hb
    replace kb := bt kb hb
    clear hb
    have P_bt5 := heap_alloc_new W5 (.cells #[.slice A0bz M0bz.length c0bz] 34)
    have hb := ba1 W5 (.cells #[.slice A0bz M0bz.length c0bz] 34)
    replace P_bt1 := rblk_below P_bt1 hb
    replace o0bz := o0bz.below hb
    replace kb := bt kb hb
    clear hb
    have hzW6 : W5.heap.size < (W5.alloc (.cells #[.slice A0bz M0bz.length c0bz] 34)).heap.size := by rw [sz1]; omega
    have c_bt50 : (W5.alloc (.cells #[.slice A0bz M0bz.length c0bz] 34)).cell? ⟨W5.heap.size, 0, none⟩ = some (.slice A0bz M0bz.length c0bz) := rblk_cell P_bt5 0
    go_wp2_with fail
    clear c_bt50
    generalize W5.alloc (.cells #[.slice A0bz M0bz.length c0bz] 34) = W6 at kb hzW6 P_bt1 P_bt5 o0bz ⊢
    refine (HI.out M0bz A0bz c0bz _ hd0bz hc0bz o0bz.rds).mono ?_
    rintro e W7 ⟨rfl, hb⟩
    have hzW7 : W6.heap.size ≤ W7.heap.size := hb.size
    replace P_bt1 := rblk_below P_bt1 hb
    replace P_bt5 := rblk_below P_bt5 hb
    replace o0bz := o0bz.below hb
    replace kb := bt kb hb
    clear hb
    go_wp2_with fail
    have hdz := hzdrew W7
    have P_bt1' := rblk_below P_bt1 ((Below.refl W7.heap.size W7).drew)
    have P_bt5' := rblk_below P_bt5 ((Below.refl W7.heap.size W7).drew)
    replace o0bz := o0bz.below ((Below.refl W7.heap.size W7).drew)
    replace kb := bt kb ((Below.refl W7.heap.size W7).drew)
    refine wp_region_held_drew (S := fun w' => w'.heap[W5.heap.size]? = some (.cells #[.slice A0bz M0bz.length c0bz] 34 (0, 0)) ∧ w'.heap[w.heap.size]? = some (.cells #[.slice A0 n0 c0] 24 (0, 0))) (by kernel_rfl) ⟨P_bt5', P_bt1'⟩ (fun hHeld => ?_)
    clear P_bt1
    clear P_bt1'
    clear P_bt5
    clear P_bt5'
    generalize W7.drew = W8 at *
    refine tk (i := 0) (v := ?vg1_1) rfl (by kernel_rfl) (fun _ _ _ h => h) (Or.inl ⟨by rfl, ?hg1_1⟩) hHeld ?_
    case hg1_1 => (intro w hSw; (try dsimp only at hSw); have t0 := rblk_cell hSw.1 0; clear hSw; go_simp; (try with_reducible rfl))
    try simp only [ps]
    refine tk (i := 1) (v := ?vg1_2) rfl (by kernel_rfl) (fun _ _ _ h => h) (Or.inl ⟨by rfl, ?hg1_2⟩) hHeld ?_
    case hg1_2 => (intro w hSw; (try dsimp only at hSw); have t0 := rblk_cell hSw.2 0; clear hSw; go_simp; (try with_reducible rfl))
    try simp only [ps]
    refine rd1 (i := 2) (by kernel_rfl) rfl (fun K hK => ?_)
    go_simp
    (go_at_call 8; ((with_reducible refine (T0.out _ (R.out _ kb).1 (R.out _ kb).2).mono ?_); rintro e W9 ⟨M0cz, A0cz, c0cz, rfl, hk0cz, hd0cz, hc0cz, o0cz, hap0cz, hb⟩))
    have hzW9 : W8.heap.size ≤ W9.heap.size := hb.size
    refine hK.out _ _ ⟨rblk_below hHeld.1 hb, rblk_below hHeld.2 hb⟩ (fun hH => ?_)
    replace hHeld := hH
    clear hK K hH
    replace kb := bt kb hb
    replace o0bz := o0bz.below hb
    clear hb
    try simp only [ps]
    refine rd1 (i := 3) (by kernel_rfl) rfl (fun K hK => ?_)
    go_simp
    (go_at_call 11; ((with_reducible refine (E0.out M0bz M0cz A0bz A0cz c0bz c0cz _ hd0bz hd0cz o0bz.rds o0cz.rds).mono ?_); rintro e W10 ⟨rfl, hb⟩))
    have hzW10 : W9.heap.size ≤ W10.heap.size := hb.size
    refine hK.out _ _ ⟨rblk_below hHeld.1 hb, rblk_below hHeld.2 hb⟩ (fun hH => ?_)
    replace hHeld := hH
    clear hK K hH
    replace kb := bt kb hb
    replace o0bz := o0bz.below hb
    replace o0cz := o0cz.below hb
    clear hb
    try simp only [ps]
    refine tk (i := 4) (v := ?vg1_3) rfl (by kernel_rfl) (fun _ _ _ h => h) (Or.inl ⟨by rfl, ?hg1_3⟩) hHeld ?_
    case hg1_3 => (intro w hSw; (try dsimp only at hSw); clear hSw; go_simp; (try with_reducible rfl))
    try simp only [ps]
    refine wpAnyH_done (by kernel_rfl) ?_ _
    have P_bt5 := hHeld.1
    have P_bt1 := hHeld.2
    clear hHeld
    go_wp2
    go_ret
    exact ⟨rfl, kb⟩
  · have SZ0 := Lib.hid (fun W h h2 => szMx_n L0 A0 c0 1048576 W hm0 hL0 (by omega) (by omega) (by omega) h h2)
    clear hg0 hm0 hL0 hA0 hR0
    generalize L0.length = n0 at SZ0 ⊢
    go_enter Tryz.func5, Tryz.ntmps5
    have kb := ba1 w (.cells #[.slice A0 n0 c0] 24)
    have P_bt1 := heap_alloc_new w (.cells #[.slice A0 n0 c0] 24)
    have c_bt10 : (w.alloc (.cells #[.slice A0 n0 c0] 24)).cell? ⟨w.heap.size, 0, none⟩ = some (.slice A0 n0 c0) := rblk_cell P_bt1 0
    go_wp2_with fail
    clear c_bt10
    generalize w.alloc (.cells #[.slice A0 n0 c0] 24) = W1 at kb P_bt1 ⊢
    refine (SZ0.out _ (R.out _ kb).1 (R.out _ kb).2).mono ?_
    rintro e W2 ⟨rfl, hb⟩
    have hzW2 : W1.heap.size ≤ W2.heap.size := hb.size
    replace P_bt1 := rblk_below P_bt1 hb
    replace kb := bt kb hb
    clear hb
    go_wp2
    go_ret
    exact ⟨rfl, kb⟩
end Go.Proofs.YtennekieiioilaaGreat
