/-
  'natOfRow' at a row that append has made.
-/
import Derived.Test.YtdgfbnnohnaoaaaGreatDoorDkA
namespace Go.Proofs.YtdgfbnnohnaoaaaGreatDoor
open Go.ChangeShapes Go.WideShapes Go.ChangeAt Go.RowKit
open Go.ChangeMaps (open_string shut_string)
set_option linter.unusedVariables false
set_option linter.unusedSimpArgs false
set_option maxRecDepth 4000

theorem cap60_yes {T : Nat} (h : ln T ≤ 60) : cap60 T = nd T := if_pos h
theorem cap60_no {T : Nat} (h : 60 < ln T) : cap60 T = [] := if_neg (by omega)

set_option maxHeartbeats 800000 in
theorem natOfRow_own (B g n c T : Nat) (w : World) (ho : OwnS B w (some ⟨g, 0, none⟩) (vi (row n T))) (hT : ln T ≤ n) (hc : n ≤ c) (hn : n ≤ 1048576) :
    Calls Tryz.prog 80 #[.slice (some ⟨g, 0, none⟩) n c] w (MadeI B (cap60 T) w) := by
  have hrd := ho.rd
  have HO := Lib.hid ho
  clear ho
  go_enter Tryz.func80, Tryz.ntmps80
  go_wp2
  go_loop [3] (fun i => ∃ k : Nat, k ≤ n ∧ ln T ≤ k ∧ i = .int .i64 (k : Int)) (fun i => (intOf i).toNat)
  case atStart => exact ⟨n, Nat.le_refl _, hT, rfl⟩
  case round =>
    obtain ⟨k, hk, hTk, rfl⟩ := hrel
    by_cases hz : 0 < k ∧ dgt T (k - 1) = 0
    · have hc1 := hrd.int_at (row_get (n := n) (i := k - 1) T (by omega))
      rw [Nat.zero_add] at hc1
      have h2 := trim_step hz.1 hTk hz.2
      have hp := hz.1
      rw [hz.2] at hc1
      have hk1 : ((k : Int) - 1) = ((k - 1 : Nat) : Int) := by omega
      have hk0 : (0 : Int) ≤ (k : Int) - 1 := by omega
      have hk2 : (k : Int) - 1 < (n : Int) := by omega
      have hkt : ((k : Int) - 1).toNat = k - 1 := by omega
      clear hz
      go_wp2
      go_round
      case rel => exact ⟨k - 1, by omega, h2, by go_num⟩
      case measure => simp [intOf]; omega
    · have hkT : Hid (ln T = k) := by
        refine Lib.hid ?_
        by_cases h0 : 0 < k
        · exact trim_stop h0 hTk (fun e => hz ⟨h0, e⟩)
        · omega
      have fin : k ≤ 60 → MadeI B (cap60 T) w (.returned (.slice (some ⟨g, 0, none⟩) k k)) w := fun h => by
        rw [cap60_yes (by rw [hkT.out]; exact h)]
        refine ⟨some ⟨g, 0, none⟩, k, by rw [nd_length, hkT.out], by rw [nd_length, hkT.out]; exact Nat.le_refl _, ?_, Below.refl _ _⟩
        have h1 := HO.out.take k
        rw [← vi_take, row_take T hk] at h1
        unfold nd
        rw [hkT.out]
        exact h1
      by_cases h0 : 0 < k
      · have hc1 := hrd.int_at (row_get (n := n) (i := k - 1) T (by omega))
        rw [Nat.zero_add] at hc1
        have hne : dgt T (k - 1) ≠ 0 := fun e => hz ⟨h0, e⟩
        have hk1 : ((k : Int) - 1) = ((k - 1 : Nat) : Int) := by omega
        clear hz
        generalize dgt T (k - 1) = x at hc1 hne
        have q : (x == 0) = false := by rw [beq_eq_false_iff_ne]; exact hne
        by_cases h60 : 60 < k
        · go_wp2
          go_ret
          rw [cap60_no (by rw [hkT.out]; exact h60)]
          exact ⟨none, 0, rfl, Nat.le_refl _, .inl rfl, Below.refl _ _⟩
        · go_wp2
          go_ret
          exact fin (by omega)
      · obtain rfl : k = 0 := by omega
        go_wp2
        go_ret
        exact fin (by omega)

end Go.Proofs.YtdgfbnnohnaoaaaGreatDoor

