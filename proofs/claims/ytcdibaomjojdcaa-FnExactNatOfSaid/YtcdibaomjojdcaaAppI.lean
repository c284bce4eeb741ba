/-
  'append' of one int onto a row of the call's own; 'NatOf', of the model and of the program.
-/
import Derived.Test.YtcdibaomjojdcaaIntH
import Derived.WalkSmall
namespace Go.Proofs.Ytcdibaomjojdcaa
open Go.ChangeShapes Go.WideShapes Go.ChangeAt Go.RowKit
open Go.ChangeMaps (open_string shut_string)
set_option linter.unusedVariables false
set_option linter.unusedSimpArgs false

theorem append_int {ops : Array Oper} {rest : List Oper} {o : Oper} {a : Act} {Q : Exit → Act → World → Prop} (hgd : o.guard = none) (f x : Operand)
    (ho : o.op = .call { callee := .builtin .append, args := #[f, x], argTypes := #[22, 22] })
    (B n : Nat) (v : Value) (xs : List Int) (t : Int) (w : World) (hf : a.eval f = v) (hx : a.eval x = .slice (some ⟨w.heap.size, 0, none⟩) 1 1)
    (hown : w.ownsRow B 3 1 v n (vi xs)) (hn : n ≤ 1099511627776) (hB : B ≤ w.heap.size)
    (h : ∀ v' w', w'.ownsRow B 3 1 v' (n + 1) (vi (xs ++ [t])) → Below B w w' → w.heap.size ≤ w'.heap.size → wpList Try.prog ops Q rest (a.put o.dst v') w') :
    wpList Try.prog ops Q (o :: rest) a (w.alloc (.cells #[.int .i64 t] 3)) := by
  obtain ⟨i0, hi, hz0, hz1, hz2⟩ := info_parts int_info
  refine wpList_append_own (w.alloc (.cells #[.int .i64 t] 3)) hgd f x 22 ho B 3 i0 _ 1 8 Try.underlying22 hi hz0 hz1 hz2 rfl (by decide) v n (vi xs) hf (hown.alloc _) ⟨w.heap.size, 0, none⟩ 1 1 [.int .i64 t] hx rfl ?_ ?_ (by simp only [maxLen]; omega) (by omega) (by simp; omega) ?_
  · intro j u hu
    have hj : j = 0 := by
      have := (List.getElem?_eq_some_iff.1 hu).1
      simpa using this
    subst hj
    simp at hu
    subst hu
    exact World.cell?_alloc_new _ _ _ _
  · simp [Value.oneCell']
  · intro v' w' h1 h2 _
    refine h v' w' (by rw [vi_append]; exact h1) ?_ (by have := h2.size; simp at this; omega)
    refine ((Below.refl B w).alloc hB _).grown h2 (by simp; omega) (fun g hg => ?_)
    rcases hown.2 with ⟨rfl, _⟩ | ⟨g', cap, cur, rfl, hbg, _⟩
    · simp [Value.ownBlock] at hg
    · simp [Value.ownBlock] at hg
      omega

theorem made_own {B n : Nat} {w w' : World} {v : Value} {L : List Int} (h : w'.ownsRow B 3 1 v n (vi L)) (hb : Below w.heap.size w w') : MadeI B L w (.returned v) w' := by
  obtain ⟨A, c, rfl, hc, _, hl⟩ := own_len h
  rw [vi_length] at hl
  subst hl
  exact ⟨A, c, rfl, hc, OwnS.of_own h, hb⟩
theorem row_succ (k : Nat) (T : Int) : row (k + 1) T = row k T ++ [dgt T k] := by simp [row, List.range_succ]
theorem ln_stop {N k : Nat} (h : (N : Int) / pw k = 0) (hk : k ≤ ln N) : k = ln N := by
  have h1 := Int.mul_ediv_add_emod (N : Int) (pw k)
  have h2 := mod_lt (N : Int) k
  rw [h, Int.mul_zero] at h1
  have : ln N ≤ k := ln_le_iff.2 (by omega)
  omega
theorem ln_more {N k : Nat} (h : 0 < (N : Int) / pw k) : k < ln N := by
  rcases Nat.lt_or_ge k (ln N) with h1 | h1
  · exact h1
  · have := ln_le_iff.1 h1
    rw [div_small (by omega) this] at h
    omega
theorem ln_small (N : Nat) (h : N ≤ 9223372036854775807) : ln N ≤ 3 := by
  rw [ln_le_iff]
  have : pw 3 = 1000000000000000000000000000 := by decide
  omega

set_option maxHeartbeats 800000 in
theorem impl_natOf (N : Nat) (w : World) (hN : N ≤ 9223372036854775807) :
    Calls Try.prog 17 #[.int .i64 (N : Int)] w (MadeI w.heap.size (nd N) w) := by
  have hl3 := ln_small N hN
  go_enter Try.func17, Try.ntmps17
  go_wp2
  go_loopw [0, 3] (fun i v w' => ∃ (k m : Nat), k ≤ ln N ∧ i = .int .i64 (m : Int) ∧ (m : Int) = (N : Int) / pw k ∧ w'.ownsRow w.heap.size 3 1 v k (vi (row k N)) ∧ Below w.heap.size w w' ∧ m ≤ N) (fun i _ _ => (intOf i).toNat)
  case atStart => exact ⟨0, N, Nat.zero_le _, rfl, (div_zero _).symm, World.ownsRow_nil _ _ _ _, Below.refl _ _, Nat.le_refl _⟩
  case round =>
    obtain ⟨k, m, hk, rfl, hm0, hown, hb, hmN⟩ := hrel
    have hm := Lib.hid hm0
    clear hm0
    by_cases hp : 0 < m
    · have hk1 : k < ln N := ln_more (by rw [← hm.out]; omega)
      have e : Hid ((m : Int) % 1000000000 = dgt N k) := Lib.hid (by rw [hm.out]; rfl)
      go_wp2_with (at_builtin; refine append_int rfl (.tmp 8) (.tmp 11) rfl w.heap.size _ _ (row k N) ((m : Int) % 1000000000) wr rfl rfl hown (by omega) hb.size ?_; intro v' w1 hown1 hb1 hs1)
      go_roundw
      case rel => exact ⟨k + 1, m / 1000000000, by omega, by go_num, by rw [div_succ, ← hm.out]; omega, by rw [row_succ, ← e.out]; exact hown1, hb.trans hb1, by omega⟩
      case measure => simp [intOf]; omega
    · obtain rfl : m = 0 := by omega
      have hkl := ln_stop (by rw [← hm.out]; rfl) hk
      go_wp2
      go_ret
      subst hkl
      exact made_own hown hb

theorem impl_natOf_int (x : Int) (w : World) (hx : x ≤ 9223372036854775807) :
    Calls Try.prog 17 #[.int .i64 x] w (MadeI w.heap.size (nd x.toNat) w) := by
  by_cases h : 0 ≤ x
  · obtain ⟨N, rfl⟩ := Int.eq_ofNat_of_zero_le h
    exact impl_natOf N w (by omega)
  · have h0 : x < 0 := by omega
    rw [show x.toNat = 0 by omega, nd_zero]
    go_enter Try.func17, Try.ntmps17
    go_wp2
    go_loopw [0, 3] (fun i v w' => i = .int .i64 x ∧ v = .slice none 0 0 ∧ w = w') (fun i _ _ => 0)
    case atStart => exact ⟨rfl, rfl, rfl⟩
    case round =>
      obtain ⟨rfl, rfl, rfl⟩ := hrel
      go_wp2
      go_ret
      exact ⟨none, 0, rfl, Nat.le_refl _, .inl rfl, Below.refl _ _⟩

set_option maxHeartbeats 800000 in
theorem spec_natOf (N : Nat) (w : World) (hN : N ≤ 9223372036854775807) :
    Calls Try.prog 16 #[.int .i64 (N : Int)] w (MadeI w.heap.size (nd N) w) := by
  have hl3 := ln_small N hN
  have hstart : (w.alloc (.cells #[] 3)).ownsRow w.heap.size 3 1 (.slice (some ⟨w.heap.size, 0, none⟩) 0 0) 0 (vi (row 0 N)) := World.ownsRow_made w #[] 0 (by omega) (by simp [maxLen]) rfl
  go_enter Try.func16, Try.ntmps16
  go_wp2
  go_loopw [0, 3] (fun i v w' => ∃ (k m : Nat), k ≤ ln N ∧ i = .int .i64 (m : Int) ∧ (m : Int) = (N : Int) / pw k ∧ w'.ownsRow w.heap.size 3 1 v k (vi (row k N)) ∧ Below w.heap.size w w' ∧ m ≤ N) (fun i _ _ => (intOf i).toNat)
  case atStart => exact ⟨0, N, Nat.zero_le _, rfl, (div_zero _).symm, hstart, (Below.refl _ _).alloc (Nat.le_refl _) _, Nat.le_refl _⟩
  case round =>
    clear hstart
    obtain ⟨k, m, hk, rfl, hm0, hown, hb, hmN⟩ := hrel
    have hm := Lib.hid hm0
    clear hm0
    by_cases hp : 0 < m
    · have hk1 : k < ln N := ln_more (by rw [← hm.out]; omega)
      have e : Hid ((m : Int) % 1000000000 = dgt N k) := Lib.hid (by rw [hm.out]; rfl)
      go_wp2_with (at_builtin; refine append_int rfl (.tmp 7) (.tmp 10) rfl w.heap.size _ _ (row k N) ((m : Int) % 1000000000) wr rfl rfl hown (by omega) hb.size ?_; intro v' w1 hown1 hb1 hs1)
      go_roundw
      case rel => exact ⟨k + 1, m / 1000000000, by omega, by go_num, by rw [div_succ, ← hm.out]; omega, by rw [row_succ, ← e.out]; exact hown1, hb.trans hb1, by omega⟩
      case measure => simp [intOf]; omega
    · obtain rfl : m = 0 := by omega
      have hkl := ln_stop (by rw [← hm.out]; rfl) hk
      go_wp2
      go_ret
      subst hkl
      exact made_own hown hb

theorem spec_natOf_int (x : Int) (w : World) (hx : x ≤ 9223372036854775807) :
    Calls Try.prog 16 #[.int .i64 x] w (MadeI w.heap.size (nd x.toNat) w) := by
  by_cases h : 0 ≤ x
  · obtain ⟨N, rfl⟩ := Int.eq_ofNat_of_zero_le h
    exact spec_natOf N w (by omega)
  · have h0 : x < 0 := by omega
    rw [show x.toNat = 0 by omega, nd_zero]
    go_enter Try.func16, Try.ntmps16
    go_wp2
    go_loopw [0, 3] (fun i v w' => i = .int .i64 x ∧ (∃ A, v = .slice A 0 0) ∧ Below w.heap.size w w') (fun i _ _ => 0)
    case atStart => exact ⟨rfl, ⟨_, rfl⟩, (Below.refl _ _).alloc (Nat.le_refl _) _⟩
    case round =>
      obtain ⟨rfl, ⟨A, rfl⟩, hb⟩ := hrel
      go_wp2
      go_ret
      exact ⟨A, 0, rfl, Nat.le_refl _, .inl rfl, hb⟩
end Go.Proofs.Ytcdibaomjojdcaa
