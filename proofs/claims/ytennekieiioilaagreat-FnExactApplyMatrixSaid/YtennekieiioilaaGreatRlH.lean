/-
  What the harness' functions do over lists of fractions: the room they take.
-/
import Derived.Test.YtennekieiioilaaGreatRl
namespace Go.Proofs.YtennekieiioilaaGreat
open Go.ChangeShapes Go.WideShapes Go.ChangeAt Go.RowKit
open Go.ChangeMaps (open_string shut_string)
set_option linter.unusedVariables false
set_option linter.unusedSimpArgs false
set_option maxRecDepth 4000

set_option maxHeartbeats 1000000 in
theorem szRS_y (L : List RV) (A : Option Addr) (c : Nat) (left : Int) (w : World) (h0 : 0 ≤ left) (h1 : left ≤ 1048576) (h : (L.length : Int) + szqs L ≤ left) (hA : RdS w A (flatQ L)) :
    Calls Tryz.prog 15 #[.slice A L.length c, .int .i64 left] w (fun e w' => e = .returned (.int .i64 (left - (L.length : Int) - szqs L)) ∧ Below w.heap.size w w') := by
  have hz := szqs_pos L
  obtain ⟨n, hn⟩ : ∃ n, n = L.length := ⟨_, rfl⟩
  rw [← hn] at h ⊢
  have HN := Lib.hid hn
  clear hn
  have h3 : ¬ left - (n : Int) < 0 := by omega
  go_enter Tryz.func15, Tryz.ntmps15
  go_wp2
  go_loopw [1, 5] (fun q i w' => ∃ k : Nat, ∃ q' : Int, k ≤ n ∧ i = .int .i64 (k : Int) ∧ q = .int .i64 q' ∧ q' = left - (n : Int) - szqs (L.take k) ∧ Below w.heap.size w w') (fun _ i _ => n - (intOf i).toNat)
  case atStart => exact ⟨0, _, Nat.zero_le _, rfl, rfl, by simp [szqs], Below.refl _ _⟩
  case round =>
    obtain ⟨k, q', hk, rfl, rfl, hq', hb⟩ := hrel
    by_cases hlt : k < n
    · obtain ⟨p, hp⟩ := getQ (show k < L.length by rw [← HN.out]; exact hlt)
      obtain ⟨g, o, rfl, hg, c0, c1, c2⟩ := (hA.below hb).three hp
      have ht := szqs_take hp
      have hle := szqs_le L (k + 1)
      have hle0 := szqs_pos (L.take k)
      have hpp := szq_pos p
      have hi0 : (0 : Int) ≤ (k : Int) := by omega
      have hi1 : (k : Int) < (n : Int) := by omega
      have SZ := Lib.hid (fun W => szRat_y p.x p.a q' W (by omega) (by omega) (by show szq p ≤ q'; omega))
      obtain ⟨q2, hq2⟩ : ∃ q2 : Int, q2 = q' - (szx p.x) := ⟨_, rfl⟩
      rw [← hq2] at SZ
      have hq3 : ¬ q2 < 0 := by have : szq p = szx p.x := rfl; omega
      have HQ : Hid (q2 = left - (n : Int) - szqs (L.take (k + 1))) := Lib.hid (by have : szq p = szx p.x := rfl; omega)
      clear ht hle hle0 hpp hq2 hq'
      go_wp2_with fail
      refine (SZ.out _).mono ?_
      rintro e w2 ⟨rfl, hb2⟩
      go_wp2
      go_roundw
      case rel => exact ⟨k + 1, q2, by omega, by go_num, rfl, HQ.out, bt hb hb2⟩
      case measure => simp [intOf]; omega
    · obtain rfl : k = n := by omega
      have HQ : Hid (q' = left - (k : Int) - szqs L) := Lib.hid (by rw [hq', HN.out, List.take_length])
      clear hq'
      go_wp2
      go_ret
      exact ⟨by rw [HQ.out]; rfl, hb⟩
set_option maxHeartbeats 1000000 in
theorem szRS_n (L : List RV) (A : Option Addr) (c : Nat) (left : Int) (w : World) (hm : L.length ≤ 9223372036854775807) (hL : ∀ p, p ∈ L → LenQ p) (h0 : 0 ≤ left) (h1 : left ≤ 1048576) (h : ¬ (L.length : Int) + szqs L ≤ left) (hA : RdS w A (flatQ L)) :
    Calls Tryz.prog 15 #[.slice A L.length c, .int .i64 left] w (fun e w' => e = .returned (.int .i64 (-1)) ∧ Below w.heap.size w w') := by
  have hz := szqs_pos L
  obtain ⟨n, hn⟩ : ∃ n, n = L.length := ⟨_, rfl⟩
  rw [← hn] at h hm ⊢
  have HN := Lib.hid hn
  clear hn
  by_cases h3 : left - (n : Int) < 0
  · go_enter Tryz.func15, Tryz.ntmps15
    go_wp2
    go_ret
    exact ⟨rfl, Below.refl _ _⟩
  go_enter Tryz.func15, Tryz.ntmps15
  go_wp2
  go_loopw [1, 5] (fun q i w' => ∃ k : Nat, ∃ q' : Int, k ≤ n ∧ i = .int .i64 (k : Int) ∧ q = .int .i64 q' ∧ q' = left - (n : Int) - szqs (L.take k) ∧ 0 ≤ q' ∧ Below w.heap.size w w') (fun _ i _ => n - (intOf i).toNat)
  case atStart => exact ⟨0, _, Nat.zero_le _, rfl, rfl, by simp [szqs], by omega, Below.refl _ _⟩
  case round =>
    obtain ⟨k, q', hk, rfl, rfl, hq', hq0, hb⟩ := hrel
    by_cases hlt : k < n
    · obtain ⟨p, hp⟩ := getQ (show k < L.length by rw [← HN.out]; exact hlt)
      obtain ⟨g, o, rfl, hg, c0, c1, c2⟩ := (hA.below hb).three hp
      have ht := szqs_take hp
      have hle0 := szqs_pos (L.take k)
      have hpp := szq_pos p
      have hi0 : (0 : Int) ≤ (k : Int) := by omega
      have hi1 : (k : Int) < (n : Int) := by omega
      by_cases hsz : szq p ≤ q'
      · have SZ := Lib.hid (fun W => szRat_y p.x p.a q' W (by omega) (by omega) (by show szq p ≤ q'; omega))
        obtain ⟨q2, hq2⟩ : ∃ q2 : Int, q2 = q' - (szx p.x) := ⟨_, rfl⟩
        rw [← hq2] at SZ
        have hq3 : ¬ q2 < 0 := by have : szq p = szx p.x := rfl; omega
        have HQ : Hid (q2 = left - (n : Int) - szqs (L.take (k + 1))) := Lib.hid (by have : szq p = szx p.x := rfl; omega)
        clear ht hle0 hpp hq2 hq' hsz
        go_wp2_with fail
        refine (SZ.out _).mono ?_
        rintro e w2 ⟨rfl, hb2⟩
        go_wp2
        go_roundw
        case rel => exact ⟨k + 1, q2, by omega, by go_num, rfl, HQ.out, by omega, bt hb hb2⟩
        case measure => simp [intOf]; omega
      · obtain ⟨l1, l2⟩ := hL p (List.mem_of_getElem? hp)
        have SZ := Lib.hid (fun W => szRat_n p.x p.a q' W l1 l2 (by omega) (by omega) (by show ¬ szq p ≤ q'; omega))
        clear ht hle0 hpp hq' hsz l1 l2
        go_wp2_with fail
        refine (SZ.out _).mono ?_
        rintro e w2 ⟨rfl, hb2⟩
        go_wp2
        go_ret
        exact ⟨rfl, bt hb hb2⟩
    · exfalso
      obtain rfl : k = n := by omega
      rw [HN.out, List.take_length] at hq'
      rw [HN.out] at h
      omega
end Go.Proofs.YtennekieiioilaaGreat
