/-
  The walk of the exact law of IsProper.
-/
import Derived.Test.YtefcpmgffkffdaaGreatLawS
import Derived.Test.YtefcpmgffkffdaaGreatTriS
import Derived.Test.YtefcpmgffkffdaaGreatTriI
namespace Go.Proofs.YtefcpmgffkffdaaGreat
open Go.ChangeShapes Go.WideShapes Go.ChangeAt Go.RowKit
open Go.ChangeMaps (open_string shut_string)
set_option linter.unusedVariables false
set_option linter.unusedSimpArgs false
set_option maxRecDepth 4000

set_option maxHeartbeats 2000000 in
theorem law_proper (L : List PV) (A : Option Addr) (c : Nat) (w : World) (hm : L.length ≤ 9223372036854775807) (hL : ∀ p, p ∈ L → LenP p) (hA : RdS w A (flat L)) (hR : Rds w (lrow L)) :
    Calls Tryz.prog 5 #[.slice A L.length c] w fun e w' => e = .returned (.bool true) ∧ Below w.heap.size w w' := by
  by_cases hg : (L.length : Int) + szs L ≤ 1048576
  · obtain ⟨hn, hS⟩ := szs_facts hg
    have SZ := Lib.hid (fun W h => szPS_y L A c 1048576 W (by omega) (by omega) hg h)
    obtain ⟨l1, hl1⟩ : ∃ l : Int, l = 1048576 - (L.length : Int) - szs L := ⟨_, rfl⟩
    rw [← hl1] at SZ
    have hs1 : ¬ l1 < 0 := by omega
    have T := Lib.hid (fun W h h' => toPS_r L A c W hn hS h h')
    have E := Lib.hid (fun M M' A A' c c' W hd hd' h h' => eqPS_t L M M' A A' c c' W hn hS hd hd' h h')
    have R : Hid (∀ W, Below w.heap.size w W → RdS W A (flat L) ∧ Rds W (lrow L)) := Lib.hid (fun W hb => ⟨hA.below hb, hR.below hb⟩)
    have HS : Hid (∀ (M : List PV) (B : Option Addr) (k : Nat) (W : World), dat M = dat L → (∀ p, p ∈ M → CapP p) → Rds W (srow B M) → Calls Tryz.prog 35 #[.slice B M.length k] W (fun e w' => e = .returned (.bool (properB L)) ∧ Below W.heap.size W w')) := Lib.hid (fun M B k W hd hc h => by
      have K := spec_proper M B k W (by rw [dat_len hd]; exact hm) (fun p hp => (dat_short hd hS p hp).len) hc h.hd h.tl
      rw [properB_dat hd] at K; exact K)
    have HI : Hid (∀ (M : List PV) (B : Option Addr) (k : Nat) (W : World), dat M = dat L → Rds W (srow B M) → Calls Tryz.prog 17 #[.slice B M.length k] W (fun e w' => e = .returned (.bool (properB L)) ∧ Below W.heap.size W w')) := Lib.hid (fun M B k W hd h => by
      have K := impl_proper M B k W (by rw [dat_len hd]; exact hm) (fun p hp => (dat_short hd hS p hp).len) h.hd h.tl
      rw [properB_dat hd] at K; exact K)
    generalize properB L = r at HS HI
    have q1 : (r != r) = false := by simp
    generalize hnn : L.length = n at SZ T ⊢
    clear hnn hg hl1 hA hR hL hn hS hm
    unfold MadePS at T
    go_enter Tryz.func5, Tryz.ntmps5
    go_wp2_with fail
    have kb := Below.refl w.heap.size w
    refine (SZ.out _ (R.out _ kb).1).mono ?_
    rintro e W1 ⟨rfl, hb⟩
    replace kb := bt kb hb
    clear hb
    go_wp2_with fail
    refine (T.out _ (R.out _ kb).1 (R.out _ kb).2).mono ?_
    rintro e W2 ⟨M1, A1, c1, rfl, hk1, hd1, hc1, o1, hap1, hb⟩
    replace kb := bt kb hb
    clear hb
    go_wp2_with fail
    refine (HS.out M1 A1 c1 _ hd1 hc1 o1.rds).mono ?_
    rintro e W3 ⟨rfl, hb⟩
    replace o1 := o1.below hb
    replace kb := bt kb hb
    clear hb
    clear o1 hap1
    go_wp2_with fail
    refine (T.out _ (R.out _ kb).1 (R.out _ kb).2).mono ?_
    rintro e W4 ⟨M2, A2, c2, rfl, hk2, hd2, hc2, o2, hap2, hb⟩
    replace kb := bt kb hb
    clear hb
    go_wp2_with fail
    refine (HI.out M2 A2 c2 _ hd2 o2.rds).mono ?_
    rintro e W5 ⟨rfl, hb⟩
    replace o2 := o2.below hb
    replace kb := bt kb hb
    clear hb
    go_wp2_with fail
    refine (T.out _ (R.out _ kb).1 (R.out _ kb).2).mono ?_
    rintro e W6 ⟨M3, A3, c3, rfl, hk3, hd3, hc3, o3, hap3, hb⟩
    replace o2 := o2.below hb
    replace kb := bt kb hb
    clear hb
    go_wp2_with fail
    refine (E.out M2 M3 A2 A3 c2 c3 _ hd2 hd3 o2.rds o3.rds).mono ?_
    rintro e W7 ⟨rfl, hb⟩
    replace o2 := o2.below hb
    replace o3 := o3.below hb
    replace kb := bt kb hb
    clear hb
    go_wp2
    go_ret
    exact ⟨rfl, kb⟩
  · have SZ := Lib.hid (fun W h => szPS_n L A c 1048576 W hm hL (by omega) (by omega) hg h)
    generalize L.length = n at SZ ⊢
    go_enter Tryz.func5, Tryz.ntmps5
    go_wp2_with fail
    refine (SZ.out _ hA).mono ?_
    rintro e W1 ⟨rfl, hb⟩
    go_wp2
    go_ret
    exact ⟨rfl, hb⟩
end Go.Proofs.YtefcpmgffkffdaaGreat
