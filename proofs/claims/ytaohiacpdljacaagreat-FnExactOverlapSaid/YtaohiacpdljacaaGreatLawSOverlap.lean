/-
  The walk of the exact law of Overlap.
-/
import Derived.Test.YtaohiacpdljacaaGreatLawS
import Derived.Test.YtaohiacpdljacaaGreatTriF
namespace Go.Proofs.YtaohiacpdljacaaGreat
open Go.ChangeShapes Go.WideShapes Go.ChangeAt Go.RowKit
open Go.ChangeMaps (open_string shut_string)
set_option linter.unusedVariables false
set_option linter.unusedSimpArgs false
set_option maxRecDepth 4000

theorem tri_dat {L L' : List PV} (h : dat L' = dat L) : (tri1 L').x = (tri1 L).x ∧ (tri1 L').y = (tri1 L).y ∧ (tri2 L').x = (tri2 L).x ∧ (tri2 L').y = (tri2 L).y ∧ (tri3 L').x = (tri3 L).x ∧ (tri3 L').y = (tri3 L).y := by
  cases hp : properB L with
  | false =>
    obtain ⟨e1, e2, e3⟩ := tri_no hp
    obtain ⟨e4, e5, e6⟩ := tri_no (L := L') (by rw [properB_dat h]; exact hp)
    rw [e1, e2, e3, e4, e5, e6]
    exact ⟨rfl, rfl, rfl, rfl, rfl, rfl⟩
  | true =>
    have hp' : properB L' = true := by rw [properB_dat h]; exact hp
    obtain ⟨p, q, r, rfl, _, _⟩ := properB_three hp
    obtain ⟨p', q', r', rfl, ⟨a1, a2⟩, ⟨a3, a4⟩, a5, a6⟩ := dat_three h
    obtain ⟨e1, e2, e3⟩ := tri_yes hp
    obtain ⟨e4, e5, e6⟩ := tri_yes hp'
    rw [e1, e2, e3, e4, e5, e6]
    exact ⟨a1, a2, a3, a4, a5, a6⟩
theorem sepB_dat {p q r u v s p' q' r' u' v' s' : PV} (h1 : p'.x = p.x) (h2 : p'.y = p.y) (h3 : q'.x = q.x) (h4 : q'.y = q.y) (h5 : r'.x = r.x) (h6 : r'.y = r.y) (k1 : u'.x = u.x) (k2 : u'.y = u.y) (k3 : v'.x = v.x) (k4 : v'.y = v.y) (k5 : s'.x = s.x) (k6 : s'.y = s.y) : sepB p' q' r' u' v' s' = sepB p q r u v s := by
  unfold sepB reachB rB aV
  rw [h1, h2, h3, h4, h5, h6, k1, k2, k3, k4, k5, k6]
theorem ovB_dat {L M L' M' : List PV} (h : dat L' = dat L) (h' : dat M' = dat M) : ovB L' M' = ovB L M := by
  obtain ⟨a1, a2, a3, a4, a5, a6⟩ := tri_dat h
  obtain ⟨b1, b2, b3, b4, b5, b6⟩ := tri_dat h'
  unfold ovB
  rw [sepB_dat a1 a2 a3 a4 a5 a6 b1 b2 b3 b4 b5 b6, sepB_dat b1 b2 b3 b4 b5 b6 a1 a2 a3 a4 a5 a6]
set_option maxHeartbeats 4000000 in
theorem law_overlap (L M : List PV) (A D : Option Addr) (c d : Nat) (w : World) (hm : L.length ≤ 9223372036854775807) (hL : ∀ p, p ∈ L → LenP p) (hA : RdS w A (flat L)) (hR : Rds w (lrow L)) (hm' : M.length ≤ 9223372036854775807) (hL' : ∀ p, p ∈ M → LenP p) (hA' : RdS w D (flat M)) (hR' : Rds w (lrow M)) :
    Calls Tryz.prog 5 #[.slice A L.length c, .slice D M.length d] w fun e w' => e = .returned (.bool true) ∧ Below w.heap.size w w' := by
  have hz1 := szs_pos L
  have hz2 := szs_pos M
  obtain ⟨l1, hl1⟩ : ∃ l : Int, l = 1048576 - (L.length : Int) - szs L := ⟨_, rfl⟩
  by_cases hg : (L.length : Int) + szs L ≤ 1048576
  · have SZ := Lib.hid (fun W h => szPS_y L A c 1048576 W (by omega) (by omega) hg h)
    rw [← hl1] at SZ
    have hs1 : ¬ l1 < 0 := by omega
    by_cases hg' : (M.length : Int) + szs M ≤ l1
    · obtain ⟨hn, hS⟩ := szs_facts hg
      obtain ⟨hn', hS'⟩ := szs_facts (L := M) (by omega)
      have SZ2 := Lib.hid (fun W h => szPS_y M D d l1 W (by omega) (by omega) hg' h)
      obtain ⟨l2, hl2⟩ : ∃ l : Int, l = l1 - (M.length : Int) - szs M := ⟨_, rfl⟩
      rw [← hl2] at SZ2
      have hs2 : ¬ l2 < 0 := by omega
      have T := Lib.hid (fun W h h' => toPS_r L A c W hn hS h h')
      have TM := Lib.hid (fun W h h' => toPS_r M D d W hn' hS' h h')
      have E := Lib.hid (fun N N' B B' c c' W hd hd' h h' => eqPS_t L N N' B B' c c' W hn hS hd hd' h h')
      have EM := Lib.hid (fun N N' B B' c c' W hd hd' h h' => eqPS_t M N N' B B' c c' W hn' hS' hd hd' h h')
      have R : Hid (∀ W, Below w.heap.size w W → (RdS W A (flat L) ∧ Rds W (lrow L)) ∧ RdS W D (flat M) ∧ Rds W (lrow M)) := Lib.hid (fun W hB => ⟨⟨hA.below hB, hR.below hB⟩, hA'.below hB, hR'.below hB⟩)
      have HS : Hid (∀ (N K : List PV) (B B' : Option Addr) (k k' : Nat) (W : World), dat N = dat L → dat K = dat M → (∀ p, p ∈ N → CapP p) → (∀ p, p ∈ K → CapP p) → Rds W (srow B N) → Rds W (srow B' K) → Calls Tryz.prog 24 #[.slice B N.length k, .slice B' K.length k'] W (fun e w' => e = .returned (.bool (ovB L M)) ∧ Below W.heap.size W w')) := Lib.hid (fun N K B B' k k' W hd hd' hc hc' h h' => by
        have X := spec_overlap N K B B' k k' W (by rw [dat_len hd]; exact hm) (fun p hp => (dat_short hd hS p hp).len) hc h.hd h.tl (by rw [dat_len hd']; exact hm') (fun p hp => (dat_short hd' hS' p hp).len) hc' h'.hd h'.tl
        rw [ovB_dat hd hd'] at X; exact X)
      have HI : Hid (∀ (N K : List PV) (B B' : Option Addr) (k k' : Nat) (W : World), dat N = dat L → dat K = dat M → Rds W (srow B N) → Rds W (srow B' K) → Calls Tryz.prog 13 #[.slice B N.length k, .slice B' K.length k'] W (fun e w' => e = .returned (.bool (ovB L M)) ∧ Below W.heap.size W w')) := Lib.hid (fun N K B B' k k' W hd hd' h h' => by
        have X := impl_overlap N K B B' k k' W (by rw [dat_len hd]; exact hm) (fun p hp => (dat_short hd hS p hp).len) h.hd h.tl (by rw [dat_len hd']; exact hm') (fun p hp => (dat_short hd' hS' p hp).len) h'.hd h'.tl
        rw [ovB_dat hd hd'] at X; exact X)
      generalize ovB L M = r at HS HI
      have q1 : (r != r) = false := by simp
      generalize hnn : L.length = n at SZ T ⊢
      generalize hnm : M.length = m at SZ2 TM ⊢
      clear hnn hnm hg hg' hl1 hl2 hA hR hL hn hS hm hA' hR' hL' hn' hS' hm' hz1 hz2
      unfold MadePS at T TM
      go_enter Tryz.func5, Tryz.ntmps5
      go_wp2_with fail
      have kb := Below.refl w.heap.size w
      refine (SZ.out _ (R.out _ kb).1.1).mono ?_
      rintro e W1 ⟨rfl, hb⟩
      have hzW1 : w.heap.size ≤ W1.heap.size := hb.size
      replace kb := bt kb hb
      clear hb
      go_wp2_with fail
      refine (SZ2.out _ (R.out _ kb).2.1).mono ?_
      rintro e W2 ⟨rfl, hb⟩
      have hzW2 : W1.heap.size ≤ W2.heap.size := hb.size
      replace kb := bt kb hb
      clear hb
      go_wp2_with fail
      refine (T.out _ (R.out _ kb).1.1 (R.out _ kb).1.2).mono ?_
      rintro e W3 ⟨M1, A1, c1, rfl, hk1, hd1, hc1, o1, hap1, hb⟩
      have hzW3 : W2.heap.size ≤ W3.heap.size := hb.size
      replace kb := bt kb hb
      clear hb
      go_wp2_with fail
      refine (TM.out _ (R.out _ kb).2.1 (R.out _ kb).2.2).mono ?_
      rintro e W4 ⟨M2, A2, c2, rfl, hk2, hd2, hc2, o2, hap2, hb⟩
      have hzW4 : W3.heap.size ≤ W4.heap.size := hb.size
      replace o1 := o1.below hb
      replace kb := bt kb hb
      clear hb
      go_wp2_with fail
      refine (HS.out M1 M2 A1 A2 c1 c2 _ hd1 hd2 hc1 hc2 o1.rds o2.rds).mono ?_
      rintro e W5 ⟨rfl, hb⟩
      have hzW5 : W4.heap.size ≤ W5.heap.size := hb.size
      replace o1 := o1.below hb
      replace o2 := o2.below hb
      replace kb := bt kb hb
      clear hb
      clear o1 o2
      go_wp2_with fail
      refine (T.out _ (R.out _ kb).1.1 (R.out _ kb).1.2).mono ?_
      rintro e W6 ⟨M3, A3, c3, rfl, hk3, hd3, hc3, o3, hap3, hb⟩
      have hzW6 : W5.heap.size ≤ W6.heap.size := hb.size
      replace kb := bt kb hb
      clear hb
      go_wp2_with fail
      refine (TM.out _ (R.out _ kb).2.1 (R.out _ kb).2.2).mono ?_
      rintro e W7 ⟨M4, A4, c4, rfl, hk4, hd4, hc4, o4, hap4, hb⟩
      have hzW7 : W6.heap.size ≤ W7.heap.size := hb.size
      replace o3 := o3.below hb
      replace kb := bt kb hb
      clear hb
      go_wp2_with fail
      refine (HI.out M3 M4 A3 A4 c3 c4 _ hd3 hd4 o3.rds o4.rds).mono ?_
      rintro e W8 ⟨rfl, hb⟩
      have hzW8 : W7.heap.size ≤ W8.heap.size := hb.size
      replace o3 := o3.below hb
      replace o4 := o4.below hb
      replace kb := bt kb hb
      clear hb
      go_wp2_with fail
      refine (T.out _ (R.out _ kb).1.1 (R.out _ kb).1.2).mono ?_
      rintro e W9 ⟨M5, A5, c5, rfl, hk5, hd5, hc5, o5, hap5, hb⟩
      have hzW9 : W8.heap.size ≤ W9.heap.size := hb.size
      replace o3 := o3.below hb
      replace o4 := o4.below hb
      replace kb := bt kb hb
      clear hb
      go_wp2_with fail
      refine (E.out M3 M5 A3 A5 c3 c5 _ hd3 hd5 o3.rds o5.rds).mono ?_
      rintro e W10 ⟨rfl, hb⟩
      have hzW10 : W9.heap.size ≤ W10.heap.size := hb.size
      replace o3 := o3.below hb
      replace o4 := o4.below hb
      replace o5 := o5.below hb
      replace kb := bt kb hb
      clear hb
      clear o3 o5
      go_wp2_with fail
      refine (TM.out _ (R.out _ kb).2.1 (R.out _ kb).2.2).mono ?_
      rintro e W11 ⟨M6, A6, c6, rfl, hk6, hd6, hc6, o6, hap6, hb⟩
      have hzW11 : W10.heap.size ≤ W11.heap.size := hb.size
      replace o4 := o4.below hb
      replace kb := bt kb hb
      clear hb
      go_wp2_with fail
      refine (EM.out M4 M6 A4 A6 c4 c6 _ hd4 hd6 o4.rds o6.rds).mono ?_
      rintro e W12 ⟨rfl, hb⟩
      have hzW12 : W11.heap.size ≤ W12.heap.size := hb.size
      replace o4 := o4.below hb
      replace o6 := o6.below hb
      replace kb := bt kb hb
      clear hb
      go_wp2
      go_ret
      exact ⟨rfl, kb⟩
    · have SZ2 := Lib.hid (fun W h => szPS_n M D d l1 W hm' hL' (by omega) (by omega) hg' h)
      have R : Hid (∀ W, Below w.heap.size w W → RdS W A (flat L) ∧ RdS W D (flat M)) := Lib.hid (fun W hB => ⟨hA.below hB, hA'.below hB⟩)
      generalize L.length = n at SZ ⊢
      generalize M.length = m at SZ2 ⊢
      clear hg hg' hl1 hA hR hL hm hA' hR' hL' hm' hz1 hz2
      go_enter Tryz.func5, Tryz.ntmps5
      go_wp2_with fail
      refine (SZ.out _ (R.out _ (Below.refl _ _)).1).mono ?_
      rintro e W1 ⟨rfl, kb⟩
      go_wp2_with fail
      refine (SZ2.out _ (R.out _ kb).2).mono ?_
      rintro e W2 ⟨rfl, hb⟩
      replace kb := bt kb hb
      go_wp2
      go_ret
      exact ⟨rfl, kb⟩
  · have SZ := Lib.hid (fun W h => szPS_n L A c 1048576 W hm hL (by omega) (by omega) hg h)
    generalize L.length = n at SZ ⊢
    generalize M.length = m
    clear hg hl1 hR hL hm hA' hR' hL' hm' hz1 hz2
    go_enter Tryz.func5, Tryz.ntmps5
    go_wp2_with fail
    refine (SZ.out _ hA).mono ?_
    rintro e W1 ⟨rfl, kb⟩
    go_wp2
    go_ret
    exact ⟨rfl, kb⟩
end Go.Proofs.YtaohiacpdljacaaGreat

