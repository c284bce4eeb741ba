/-
  The room that matrices take.
-/
import Derived.Test.YtennekieiioilaaGreatMx
import Derived.Test.YtennekieiioilaaGreatRlH
import Derived.Test.YtennekieiioilaaGreatPkD
namespace Go.Proofs.YtennekieiioilaaGreat
open Go.ChangeShapes Go.WideShapes Go.ChangeAt Go.RowKit
open Go.ChangeMaps (open_string shut_string)
set_option linter.unusedVariables false
set_option linter.unusedSimpArgs false
set_option maxRecDepth 4000

set_option maxHeartbeats 1000000 in
theorem szRow_y (p : MR) (left : Int) (w : World) (h0 : 0 ≤ left) (h1 : left ≤ 1048576) (h : szr p ≤ left) (hA : RdS w p.B (flatQ p.V)) :
    Calls Tryz.prog 49 #[(.agg #[.slice p.A p.cs.length p.c, .slice p.B p.V.length p.d]), .int .i64 left] w (fun e w' => e = .returned (.int .i64 (left - szr p)) ∧ Below w.heap.size w w') := by
  have hz := szqs_pos p.V
  unfold szr at h ⊢
  have S1 := Lib.hid (fun W => szInt_yes p.A p.cs.length p.c left W h0 h1 (by omega))
  have S2 := Lib.hid (fun W (hh : RdS W p.B (flatQ p.V)) => szRS_y p.V p.B p.d (left - (p.cs.length : Int)) W (by omega) (by omega) (by omega) hh)
  have R : Hid (∀ W, Below w.heap.size w W → RdS W p.B (flatQ p.V)) := Lib.hid (fun W hb => hA.below hb)
  have q1 : ¬ left - (p.cs.length : Int) < 0 := by omega
  have q2 : ¬ left - (p.cs.length : Int) - (p.V.length : Int) - szqs p.V < 0 := by omega
  have e : left - ((p.cs.length : Int) + ((p.V.length : Int) + szqs p.V)) = left - (p.cs.length : Int) - (p.V.length : Int) - szqs p.V := by omega
  rw [e]
  clear hA hz h e
  generalize p.cs.length = n at *
  generalize p.V.length = m at *
  generalize hl1 : left - (n : Int) = l1 at *
  generalize hl2 : l1 - (m : Int) - szqs p.V = l2 at *
  clear hl1 hl2
  have P_e := heap_alloc_new w (.cells #[.slice p.A n p.c, .slice p.B m p.d] 75)
  have kb := ba1 w (.cells #[.slice p.A n p.c, .slice p.B m p.d] 75)
  have c0 : (w.alloc (.cells #[.slice p.A n p.c, .slice p.B m p.d] 75)).cell? ⟨w.heap.size, 0, none⟩ = some (.slice p.A n p.c) := rblk_cell P_e 0
  have c1 : (w.alloc (.cells #[.slice p.A n p.c, .slice p.B m p.d] 75)).cell? ⟨w.heap.size, 1, none⟩ = some (.slice p.B m p.d) := rblk_cell P_e 1
  go_enter Tryz.func49, Tryz.ntmps49
  go_wp2_with fail
  clear c0 c1
  generalize w.alloc (.cells #[.slice p.A n p.c, .slice p.B m p.d] 75) = W1 at P_e kb ⊢
  refine (S1.out _).mono ?_
  rintro e w2 ⟨rfl, rfl⟩
  have c1 := rblk_cell P_e 1
  go_wp2_with fail
  clear c1
  refine (S2.out _ (R.out _ kb)).mono ?_
  rintro e w3 ⟨rfl, hb⟩
  go_wp2
  go_ret
  exact ⟨rfl, bt kb hb⟩
set_option maxHeartbeats 1000000 in
theorem szRow_n (p : MR) (left : Int) (w : World) (h0 : 0 ≤ left) (h1 : left ≤ 1048576) (hl : LenX p) (h : ¬ szr p ≤ left) (hA : RdS w p.B (flatQ p.V)) :
    Calls Tryz.prog 49 #[(.agg #[.slice p.A p.cs.length p.c, .slice p.B p.V.length p.d]), .int .i64 left] w (fun e w' => e = .returned (.int .i64 (-1)) ∧ Below w.heap.size w w') := by
  have hz := szqs_pos p.V
  unfold szr at h
  obtain ⟨l1, l2, l3⟩ := hl
  have R : Hid (∀ W, Below w.heap.size w W → RdS W p.B (flatQ p.V)) := Lib.hid (fun W hb => hA.below hb)
  have P_e := heap_alloc_new w (.cells #[.slice p.A p.cs.length p.c, .slice p.B p.V.length p.d] 75)
  have kb := ba1 w (.cells #[.slice p.A p.cs.length p.c, .slice p.B p.V.length p.d] 75)
  have c0 : (w.alloc (.cells #[.slice p.A p.cs.length p.c, .slice p.B p.V.length p.d] 75)).cell? ⟨w.heap.size, 0, none⟩ = some (.slice p.A p.cs.length p.c) := rblk_cell P_e 0
  by_cases hc : (p.cs.length : Int) ≤ left
  · have S1 := Lib.hid (fun W => szInt_yes p.A p.cs.length p.c left W h0 h1 hc)
    have S2 := Lib.hid (fun W (hh : RdS W p.B (flatQ p.V)) => szRS_n p.V p.B p.d (left - (p.cs.length : Int)) W l2 l3 (by omega) (by omega) (by omega) hh)
    have q1 : ¬ left - (p.cs.length : Int) < 0 := by omega
    clear hA hz h l1 l2 l3 hc
    generalize p.cs.length = n at *
    generalize p.V.length = m at *
    generalize hl1 : left - (n : Int) = l1 at *
    clear hl1
    go_enter Tryz.func49, Tryz.ntmps49
    go_wp2_with fail
    clear c0
    generalize w.alloc (.cells #[.slice p.A n p.c, .slice p.B m p.d] 75) = W1 at P_e kb ⊢
    refine (S1.out _).mono ?_
    rintro e w2 ⟨rfl, rfl⟩
    have c1 := rblk_cell P_e 1
    go_wp2_with fail
    clear c1
    refine (S2.out _ (R.out _ kb)).mono ?_
    rintro e w3 ⟨rfl, hb⟩
    go_wp2
    go_ret
    exact ⟨rfl, bt kb hb⟩
  · have S1 := Lib.hid (fun W => szInt_no p.A p.cs.length p.c left W h0 h1 l1 hc)
    clear hA hz h l1 l2 l3 hc
    generalize p.cs.length = n at *
    generalize p.V.length = m at *
    go_enter Tryz.func49, Tryz.ntmps49
    go_wp2_with fail
    clear c0
    generalize w.alloc (.cells #[.slice p.A n p.c, .slice p.B m p.d] 75) = W1 at P_e kb ⊢
    refine (S1.out _).mono ?_
    rintro e w2 ⟨rfl, rfl⟩
    go_wp2
    go_ret
    exact ⟨rfl, kb⟩
set_option maxHeartbeats 1000000 in
theorem szMS_y (L : List MR) (A : Option Addr) (c : Nat) (left : Int) (w : World) (h0 : 0 ≤ left) (h1 : left ≤ 1048576) (h : (L.length : Int) + szrs L ≤ left) (hA : RdS w A (flatX L)) (hR : Rds w (lrowX L)) :
    Calls Tryz.prog 24 #[.slice A L.length c, .int .i64 left] w (fun e w' => e = .returned (.int .i64 (left - (L.length : Int) - szrs L)) ∧ Below w.heap.size w w') := by
  have hz := szrs_pos L
  obtain ⟨n, hn⟩ : ∃ n, n = L.length := ⟨_, rfl⟩
  rw [← hn] at h ⊢
  have HN := Lib.hid hn
  clear hn
  have h3 : ¬ left - (n : Int) < 0 := by omega
  go_enter Tryz.func24, Tryz.ntmps24
  go_wp2
  go_loopw [1, 5] (fun q i w' => ∃ k : Nat, ∃ q' : Int, k ≤ n ∧ i = .int .i64 (k : Int) ∧ q = .int .i64 q' ∧ q' = left - (n : Int) - szrs (L.take k) ∧ Below w.heap.size w w') (fun _ i _ => n - (intOf i).toNat)
  case atStart => exact ⟨0, _, Nat.zero_le _, rfl, rfl, by simp [szrs], Below.refl _ _⟩
  case round =>
    obtain ⟨k, q', hk, rfl, rfl, hq', hb⟩ := hrel
    by_cases hlt : k < n
    · obtain ⟨p, hp⟩ := getX (show k < L.length by rw [← HN.out]; exact hlt)
      obtain ⟨g, o, rfl, hg, c0, c1⟩ := (hA.below hb).two hp
      have RP : Hid (RdS wr p.B (flatQ p.V)) := Lib.hid ((hR.below hb).atX hp).tl.hd
      have ht := szrs_take hp
      have hle := szrs_le L (k + 1)
      have hle0 := szrs_pos (L.take k)
      have hpp := szr_pos p
      have hi0 : (0 : Int) ≤ (k : Int) := by omega
      have hi1 : (k : Int) < (n : Int) := by omega
      have SZ := Lib.hid (fun W hh => szRow_y p q' W (by omega) (by omega) (by omega) hh)
      obtain ⟨q2, hq2⟩ : ∃ q2 : Int, q2 = q' - (szr p) := ⟨_, rfl⟩
      rw [← hq2] at SZ
      have hq3 : ¬ q2 < 0 := by omega
      have HQ : Hid (q2 = left - (n : Int) - szrs (L.take (k + 1))) := Lib.hid (by omega)
      clear ht hle hle0 hpp hq2 hq'
      go_wp2_with fail
      refine (SZ.out _ RP.out).mono ?_
      rintro e w2 ⟨rfl, hb2⟩
      go_wp2
      go_roundw
      case rel => exact ⟨k + 1, q2, by omega, by go_num, rfl, HQ.out, bt hb hb2⟩
      case measure => simp [intOf]; omega
    · obtain rfl : k = n := by omega
      have HQ : Hid (q' = left - (k : Int) - szrs L) := Lib.hid (by rw [hq', HN.out, List.take_length])
      clear hq'
      go_wp2
      go_ret
      exact ⟨by rw [HQ.out]; rfl, hb⟩
set_option maxHeartbeats 1000000 in
theorem szMS_n (L : List MR) (A : Option Addr) (c : Nat) (left : Int) (w : World) (hm : L.length ≤ 9223372036854775807) (hL : ∀ p, p ∈ L → LenX p) (h0 : 0 ≤ left) (h1 : left ≤ 1048576) (h : ¬ (L.length : Int) + szrs L ≤ left) (hA : RdS w A (flatX L)) (hR : Rds w (lrowX L)) :
    Calls Tryz.prog 24 #[.slice A L.length c, .int .i64 left] w (fun e w' => e = .returned (.int .i64 (-1)) ∧ Below w.heap.size w w') := by
  have hz := szrs_pos L
  obtain ⟨n, hn⟩ : ∃ n, n = L.length := ⟨_, rfl⟩
  rw [← hn] at h hm ⊢
  have HN := Lib.hid hn
  clear hn
  by_cases h3 : left - (n : Int) < 0
  · go_enter Tryz.func24, Tryz.ntmps24
    go_wp2
    go_ret
    exact ⟨rfl, Below.refl _ _⟩
  go_enter Tryz.func24, Tryz.ntmps24
  go_wp2
  go_loopw [1, 5] (fun q i w' => ∃ k : Nat, ∃ q' : Int, k ≤ n ∧ i = .int .i64 (k : Int) ∧ q = .int .i64 q' ∧ q' = left - (n : Int) - szrs (L.take k) ∧ 0 ≤ q' ∧ Below w.heap.size w w') (fun _ i _ => n - (intOf i).toNat)
  case atStart => exact ⟨0, _, Nat.zero_le _, rfl, rfl, by simp [szrs], by omega, Below.refl _ _⟩
  case round =>
    obtain ⟨k, q', hk, rfl, rfl, hq', hq0, hb⟩ := hrel
    by_cases hlt : k < n
    · obtain ⟨p, hp⟩ := getX (show k < L.length by rw [← HN.out]; exact hlt)
      obtain ⟨g, o, rfl, hg, c0, c1⟩ := (hA.below hb).two hp
      have RP : Hid (RdS wr p.B (flatQ p.V)) := Lib.hid ((hR.below hb).atX hp).tl.hd
      have ht := szrs_take hp
      have hle0 := szrs_pos (L.take k)
      have hpp := szr_pos p
      have hi0 : (0 : Int) ≤ (k : Int) := by omega
      have hi1 : (k : Int) < (n : Int) := by omega
      by_cases hsz : szr p ≤ q'
      · have SZ := Lib.hid (fun W hh => szRow_y p q' W (by omega) (by omega) (by omega) hh)
        obtain ⟨q2, hq2⟩ : ∃ q2 : Int, q2 = q' - (szr p) := ⟨_, rfl⟩
        rw [← hq2] at SZ
        have hq3 : ¬ q2 < 0 := by omega
        have HQ : Hid (q2 = left - (n : Int) - szrs (L.take (k + 1))) := Lib.hid (by omega)
        clear ht hle0 hpp hq2 hq' hsz
        go_wp2_with fail
        refine (SZ.out _ RP.out).mono ?_
        rintro e w2 ⟨rfl, hb2⟩
        go_wp2
        go_roundw
        case rel => exact ⟨k + 1, q2, by omega, by go_num, rfl, HQ.out, by omega, bt hb hb2⟩
        case measure => simp [intOf]; omega
      · have lp := hL p (List.mem_of_getElem? hp)
        have SZ := Lib.hid (fun W hh => szRow_n p q' W (by omega) (by omega) lp (by omega) hh)
        clear ht hle0 hpp hq' hsz lp
        go_wp2_with fail
        refine (SZ.out _ RP.out).mono ?_
        rintro e w2 ⟨rfl, hb2⟩
        go_wp2
        go_ret
        exact ⟨rfl, bt hb hb2⟩
    · exfalso
      obtain rfl : k = n := by omega
      rw [HN.out, List.take_length] at hq'
      rw [HN.out] at h
      omega

set_option maxHeartbeats 1000000 in
theorem szMx_y (L : List MR) (A : Option Addr) (c : Nat) (left : Int) (w : World) (h0 : 0 ≤ left) (h1 : left ≤ 1048576) (h : (L.length : Int) + szrs L ≤ left) (hA : RdS w A (flatX L)) (hR : Rds w (lrowX L)) :
    Calls Tryz.prog 6 #[.agg #[.slice A L.length c], .int .i64 left] w (fun e w' => e = .returned (.int .i64 (left - (L.length : Int) - szrs L)) ∧ Below w.heap.size w w') := by
  have S := Lib.hid (fun W (hb : Below w.heap.size w W) => szMS_y L A c left W h0 h1 h (hA.below hb) (hR.below hb))
  have hz := szrs_pos L
  have q : ¬ left - (L.length : Int) - szrs L < 0 := by omega
  generalize left - (L.length : Int) - szrs L = r at S q ⊢
  clear hz h
  clear hA hR
  generalize L.length = n at *
  have P_e := heap_alloc_new w (.cells #[.slice A n c] 24)
  have kb := ba1 w (.cells #[.slice A n c] 24)
  have c0 : (w.alloc (.cells #[.slice A n c] 24)).cell? ⟨w.heap.size, 0, none⟩ = some (.slice A n c) := rblk_cell P_e 0
  go_enter Tryz.func6, Tryz.ntmps6
  go_wp2_with fail
  clear c0
  refine (S.out _ kb).mono ?_
  rintro e w2 ⟨rfl, hb⟩
  go_wp2
  go_ret
  exact ⟨rfl, bt kb hb⟩
set_option maxHeartbeats 1000000 in
theorem szMx_n (L : List MR) (A : Option Addr) (c : Nat) (left : Int) (w : World) (hm : L.length ≤ 9223372036854775807) (hL : ∀ p, p ∈ L → LenX p) (h0 : 0 ≤ left) (h1 : left ≤ 1048576) (h : ¬ (L.length : Int) + szrs L ≤ left) (hA : RdS w A (flatX L)) (hR : Rds w (lrowX L)) :
    Calls Tryz.prog 6 #[.agg #[.slice A L.length c], .int .i64 left] w (fun e w' => e = .returned (.int .i64 (-1)) ∧ Below w.heap.size w w') := by
  have S := Lib.hid (fun W (hb : Below w.heap.size w W) => szMS_n L A c left W hm hL h0 h1 h (hA.below hb) (hR.below hb))
  clear hm hL h
  clear hA hR
  generalize L.length = n at *
  have P_e := heap_alloc_new w (.cells #[.slice A n c] 24)
  have kb := ba1 w (.cells #[.slice A n c] 24)
  have c0 : (w.alloc (.cells #[.slice A n c] 24)).cell? ⟨w.heap.size, 0, none⟩ = some (.slice A n c) := rblk_cell P_e 0
  go_enter Tryz.func6, Tryz.ntmps6
  go_wp2_with fail
  clear c0
  refine (S.out _ kb).mono ?_
  rintro e w2 ⟨rfl, hb⟩
  go_wp2
  go_ret
  exact ⟨rfl, bt kb hb⟩
end Go.Proofs.YtennekieiioilaaGreat
