/-
  'l02Trim' of the model.
-/
import Derived.Test.YtmmgcdfifcbabaaGreatDoorAppI
namespace Go.Proofs.YtmmgcdfifcbabaaGreatDoor
open Go.ChangeShapes Go.WideShapes Go.ChangeAt Go.RowKit
open Go.ChangeMaps (open_string shut_string)
set_option linter.unusedVariables false
set_option linter.unusedSimpArgs false
set_option maxRecDepth 4000

set_option maxHeartbeats 400000 in
theorem trim_any (B n c T : Nat) (A : Option Addr) (w : World) (ho : OwnS B w A (vi (row n T))) (hT : ln T ≤ n) (hc : n ≤ c) (hn : n ≤ 1048576) :
    Calls Tryz.prog 49 #[.slice A n c] w (MadeI B (nd T) w) := by
  by_cases h0 : n = 0
  · subst h0
    have hz : nd T = [] := by
      have : ln T = 0 := by omega
      unfold nd; rw [this]; rfl
    rw [hz]
    clear ho
    cases A with
    | none =>
      go_enter Tryz.func49, Tryz.ntmps49
      go_wp2
      go_loop [3] (fun i => i = .int .i64 0) (fun i => 0)
      case atStart => exact rfl
      case round =>
        obtain rfl := hrel
        go_wp2
        go_ret
        exact ⟨_, _, rfl, Nat.zero_le _, .inl rfl, Below.refl _ _⟩
    | some ad =>
      go_enter Tryz.func49, Tryz.ntmps49
      go_wp2
      go_loop [3] (fun i => i = .int .i64 0) (fun i => 0)
      case atStart => exact rfl
      case round =>
        obtain rfl := hrel
        go_wp2
        go_ret
        exact ⟨_, _, rfl, Nat.zero_le _, .inl rfl, Below.refl _ _⟩
  · obtain ⟨g, rfl, hBg, hgw, hcell, hfr⟩ := ho.block (by rw [vi_length, row_length]; omega)
    have hrd := ho.rd
    have HO := Lib.hid ho
    clear ho hcell hfr
    go_enter Tryz.func49, Tryz.ntmps49
    go_wp2
    go_loop [3] (fun i => ∃ k : Nat, k ≤ n ∧ ln T ≤ k ∧ i = .int .i64 (k : Int)) (fun i => (intOf i).toNat)
    case atStart => exact ⟨n, Nat.le_refl _, hT, rfl⟩
    case round =>
      obtain ⟨k, hk, hTk, rfl⟩ := hrel
      by_cases hz : 0 < k ∧ dgt T (k - 1) = 0
      · have hc1 := hrd.int_at (row_get (n := n) (i := k - 1) T (by omega))
        rw [Nat.zero_add] at hc1
        have h2 := trim_step hz.1 hTk hz.2
        have hp := hz.1
        rw [hz.2] at hc1
        have hk1 : ((k : Int) - 1) = ((k - 1 : Nat) : Int) := by omega
        have hk0 : (0 : Int) ≤ (k : Int) - 1 := by omega
        have hk2 : (k : Int) - 1 < (n : Int) := by omega
        have hkt : ((k : Int) - 1).toNat = k - 1 := by omega
        clear hz
        go_wp2
        go_round
        case rel => exact ⟨k - 1, by omega, h2, by go_num⟩
        case measure => simp [intOf]; omega
      · have hkT : Hid (ln T = k) := by
          refine Lib.hid ?_
          by_cases h0 : 0 < k
          · exact trim_stop h0 hTk (fun e => hz ⟨h0, e⟩)
          · omega
        have fin : MadeI B (nd T) w (.returned (.slice (some ⟨g, 0, none⟩) k c)) w := by
          refine ⟨some ⟨g, 0, none⟩, c, by rw [nd_length, hkT.out], by rw [nd_length, hkT.out]; omega, ?_, Below.refl _ _⟩
          have h1 := HO.out.take k
          rw [← vi_take, row_take T hk] at h1
          unfold nd
          rw [hkT.out]
          exact h1
        by_cases h0 : 0 < k
        · have hc1 := hrd.int_at (row_get (n := n) (i := k - 1) T (by omega))
          rw [Nat.zero_add] at hc1
          have hne : dgt T (k - 1) ≠ 0 := fun e => hz ⟨h0, e⟩
          have hk1 : ((k : Int) - 1) = ((k - 1 : Nat) : Int) := by omega
          clear hz
          generalize dgt T (k - 1) = x at hc1 hne
          have q : (x == 0) = false := by rw [beq_eq_false_iff_ne]; exact hne
          go_wp2
          go_ret
          exact fin
        · obtain rfl : k = 0 := by omega
          go_wp2
          go_ret
          exact fin

end Go.Proofs.YtmmgcdfifcbabaaGreatDoor
