/-
  What the harness' functions do over lists of points: the room they take, copies, equality.
-/
import Derived.Test.YtoknolholccamaaSl
namespace Go.Proofs.Ytoknolholccamaa
open Go.ChangeShapes Go.WideShapes Go.ChangeAt Go.RowKit
open Go.ChangeMaps (open_string shut_string)
set_option linter.unusedVariables false
set_option linter.unusedSimpArgs false
set_option maxRecDepth 4000

set_option maxHeartbeats 1000000 in
theorem szPS_y (L : List PV) (A : Option Addr) (c : Nat) (left : Int) (w : World) (h0 : 0 ≤ left) (h1 : left ≤ 1048576) (h : (L.length : Int) + szs L ≤ left) (hA : RdS w A (flat L)) :
    Calls Try.prog 20 #[.slice A L.length c, .int .i64 left] w (fun e w' => e = .returned (.int .i64 (left - (L.length : Int) - szs L)) ∧ Below w.heap.size w w') := by
  have hz := szs_pos L
  obtain ⟨n, hn⟩ : ∃ n, n = L.length := ⟨_, rfl⟩
  rw [← hn] at h ⊢
  have HN := Lib.hid hn
  clear hn
  have h3 : ¬ left - (n : Int) < 0 := by omega
  go_enter Try.func20, Try.ntmps20
  go_wp2
  go_loopw [1, 5] (fun q i w' => ∃ k : Nat, ∃ q' : Int, k ≤ n ∧ i = .int .i64 (k : Int) ∧ q = .int .i64 q' ∧ q' = left - (n : Int) - szs (L.take k) ∧ Below w.heap.size w w') (fun _ i _ => n - (intOf i).toNat)
  case atStart => exact ⟨0, _, Nat.zero_le _, rfl, rfl, by simp [szs], Below.refl _ _⟩
  case round =>
    obtain ⟨k, q', hk, rfl, rfl, hq', hb⟩ := hrel
    by_cases hlt : k < n
    · obtain ⟨p, hp⟩ := getP (show k < L.length by rw [← HN.out]; exact hlt)
      obtain ⟨g, o, rfl, hg, c0, c1, c2, c3, c4, c5⟩ := (hA.below hb).six hp
      have ht := szs_take hp
      have hle := szs_le L (k + 1)
      have hle0 := szs_pos (L.take k)
      have hpp := szp_pos p
      have hi0 : (0 : Int) ≤ (k : Int) := by omega
      have hi1 : (k : Int) < (n : Int) := by omega
      have SZ := Lib.hid (fun W => szPt_y p.x p.y p.a p.b q' W (by omega) (by omega) (by show szp p ≤ q'; omega))
      obtain ⟨q2, hq2⟩ : ∃ q2 : Int, q2 = q' - (szx p.x + szx p.y) := ⟨_, rfl⟩
      rw [← hq2] at SZ
      have hq3 : ¬ q2 < 0 := by have : szp p = szx p.x + szx p.y := rfl; omega
      have HQ : Hid (q2 = left - (n : Int) - szs (L.take (k + 1))) := Lib.hid (by have : szp p = szx p.x + szx p.y := rfl; omega)
      clear ht hle hle0 hpp hq2 hq'
      go_wp2_with fail
      refine (SZ.out _).mono ?_
      rintro e w2 ⟨rfl, hb2⟩
      go_wp2
      go_roundw
      case rel => exact ⟨k + 1, q2, by omega, by go_num, rfl, HQ.out, bt hb hb2⟩
      case measure => simp [intOf]; omega
    · obtain rfl : k = n := by omega
      have HQ : Hid (q' = left - (k : Int) - szs L) := Lib.hid (by rw [hq', HN.out, List.take_length])
      clear hq'
      go_wp2
      go_ret
      exact ⟨by rw [HQ.out]; rfl, hb⟩
set_option maxHeartbeats 1000000 in
theorem szPS_n (L : List PV) (A : Option Addr) (c : Nat) (left : Int) (w : World) (hm : L.length ≤ 9223372036854775807) (hL : ∀ p, p ∈ L → LenP p) (h0 : 0 ≤ left) (h1 : left ≤ 1048576) (h : ¬ (L.length : Int) + szs L ≤ left) (hA : RdS w A (flat L)) :
    Calls Try.prog 20 #[.slice A L.length c, .int .i64 left] w (fun e w' => e = .returned (.int .i64 (-1)) ∧ Below w.heap.size w w') := by
  have hz := szs_pos L
  obtain ⟨n, hn⟩ : ∃ n, n = L.length := ⟨_, rfl⟩
  rw [← hn] at h hm ⊢
  have HN := Lib.hid hn
  clear hn
  by_cases h3 : left - (n : Int) < 0
  · go_enter Try.func20, Try.ntmps20
    go_wp2
    go_ret
    exact ⟨rfl, Below.refl _ _⟩
  go_enter Try.func20, Try.ntmps20
  go_wp2
  go_loopw [1, 5] (fun q i w' => ∃ k : Nat, ∃ q' : Int, k ≤ n ∧ i = .int .i64 (k : Int) ∧ q = .int .i64 q' ∧ q' = left - (n : Int) - szs (L.take k) ∧ 0 ≤ q' ∧ Below w.heap.size w w') (fun _ i _ => n - (intOf i).toNat)
  case atStart => exact ⟨0, _, Nat.zero_le _, rfl, rfl, by simp [szs], by omega, Below.refl _ _⟩
  case round =>
    obtain ⟨k, q', hk, rfl, rfl, hq', hq0, hb⟩ := hrel
    by_cases hlt : k < n
    · obtain ⟨p, hp⟩ := getP (show k < L.length by rw [← HN.out]; exact hlt)
      obtain ⟨g, o, rfl, hg, c0, c1, c2, c3, c4, c5⟩ := (hA.below hb).six hp
      have ht := szs_take hp
      have hle0 := szs_pos (L.take k)
      have hpp := szp_pos p
      have hi0 : (0 : Int) ≤ (k : Int) := by omega
      have hi1 : (k : Int) < (n : Int) := by omega
      by_cases hsz : szp p ≤ q'
      · have SZ := Lib.hid (fun W => szPt_y p.x p.y p.a p.b q' W (by omega) (by omega) (by show szp p ≤ q'; omega))
        obtain ⟨q2, hq2⟩ : ∃ q2 : Int, q2 = q' - (szx p.x + szx p.y) := ⟨_, rfl⟩
        rw [← hq2] at SZ
        have hq3 : ¬ q2 < 0 := by have : szp p = szx p.x + szx p.y := rfl; omega
        have HQ : Hid (q2 = left - (n : Int) - szs (L.take (k + 1))) := Lib.hid (by have : szp p = szx p.x + szx p.y := rfl; omega)
        clear ht hle0 hpp hq2 hq' hsz
        go_wp2_with fail
        refine (SZ.out _).mono ?_
        rintro e w2 ⟨rfl, hb2⟩
        go_wp2
        go_roundw
        case rel => exact ⟨k + 1, q2, by omega, by go_num, rfl, HQ.out, by omega, bt hb hb2⟩
        case measure => simp [intOf]; omega
      · obtain ⟨⟨l1, l2⟩, l3, l4⟩ := hL p (List.mem_of_getElem? hp)
        have SZ := Lib.hid (fun W => szPt_n p.x p.y p.a p.b q' W l1 l2 l3 l4 (by omega) (by omega) (by show ¬ szp p ≤ q'; omega))
        clear ht hle0 hpp hq' hsz l1 l2 l3 l4
        go_wp2_with fail
        refine (SZ.out _).mono ?_
        rintro e w2 ⟨rfl, hb2⟩
        go_wp2
        go_ret
        exact ⟨rfl, bt hb hb2⟩
    · exfalso
      obtain rfl : k = n := by omega
      rw [HN.out, List.take_length] at hq'
      rw [HN.out] at h
      omega
end Go.Proofs.Ytoknolholccamaa
