/-
  'copyRow', 'natOfRow', 'window'.
-/
import Derived.Test.YtmmgcdfifcbabaaGreatDoorPass
namespace Go.Proofs.YtmmgcdfifcbabaaGreatDoor
open Go.ChangeShapes Go.WideShapes Go.ChangeAt Go.RowKit
open Go.ChangeMaps (open_string shut_string)
set_option linter.unusedVariables false
set_option linter.unusedSimpArgs false

theorem row_more {n e : Nat} {v : Int} (h0 : 0 ≤ v) (h : v < pw n) : row (n + e) v = row n v ++ row e 0 := by
  apply List.ext_getElem?
  intro j
  rcases Nat.lt_or_ge j n with h1 | h1
  · rw [List.getElem?_append_left (by rw [row_length]; exact h1), row_get _ h1, row_get _ (by omega)]
  · rw [List.getElem?_append_right (by rw [row_length]; exact h1), row_length]
    rcases Nat.lt_or_ge j (n + e) with h2 | h2
    · rw [row_get _ h2, row_get _ (by omega), dgt_zero, dgt_small h0 h h1]
    · rw [List.getElem?_eq_none (by rw [row_length]; exact h2), List.getElem?_eq_none (by rw [row_length]; omega)]
theorem wide_row {v n : Nat} (h : ln v ≤ n) : row n v = nd v ++ row (n - ln v) 0 := by
  have := row_more (n := ln v) (e := n - ln v) (v := v) (by omega) (ln_lt v)
  rw [show ln v + (n - ln v) = n by omega] at this
  exact this

/-- A place to halt the walk at. -/
def Cut (p : Prop) : Prop := p
theorem cut_here {p : Prop} (h : Cut p) : p := h
theorem Cut.of {p : Prop} (h : p) : Cut p := h

set_option maxHeartbeats 800000 in
theorem copy_any (v : Nat) (A : Option Addr) (n c e : Nat) (w : World) (hl : ln v = n) (hn : n ≤ 1048576) (he : e ≤ 1048576) (hA : RdS w A (vi (nd v))) :
    Calls Tryz.prog 75 #[.slice A n c, .int .i64 (e : Int)] w fun q w' => ∃ g, w.heap.size ≤ g ∧ q = .returned (.slice (some ⟨g, 0, none⟩) (n + e) (n + e)) ∧ Blk w' g (row (n + e) v) ∧ Below w.heap.size w w' := by
  obtain ⟨i0, hi, hz0, hz1, hz2⟩ := info_parts int_info
  have HL := Lib.hid hl
  have hinfo : (Tryz.prog.info? 3).map (·.size) = some 1 := by rw [hi]; simp [hz1]
  clear hl
  go_enter Tryz.func75, Tryz.ntmps75
  go_wp2_with (refine wpList_make_full _ rfl (.tmp 9) (.tmp 9) 23 rfl w.heap.size 3 i0 _ 1 Tryz.underlying23 hi hz0 hz1 .i64 .i64 ((n : Int) + (e : Int)) ((n : Int) + (e : Int)) (n + e) rfl rfl (by omega) (by omega) (by rw [hz2]; omega) (by simp only [maxLen]; omega) (Nat.le_refl _) ?_; intro w1 hown hg; refine cut_here ?_)
  have hb1 : Below w.heap.size w w1 := below_of_grown hg (Nat.le_refl _) (fun g h => by cases h)
  have hB := Blk.of_made hown (zeros (n + e))
  have hA1 := hA.below hb1
  clear hown hg
  have hlen : (vi (nd v)).length = n := by rw [vi_length, nd_length, HL.out]
  have hpos : 0 < (vi (nd v)).length → (some (⟨w.heap.size, 0, none⟩ : Addr)) = some ⟨w.heap.size, 0, none⟩ ∧ ∃ ad, A = some ad ∧ ∀ j x, (vi (nd v))[j]? = some x → w1.cell? (ad.add j) = some x := fun h0 => by
    obtain ⟨b, off, ha, hbl, hc⟩ := hA1.block h0
    refine ⟨rfl, ⟨b, off, none⟩, ha, fun j x hx => ?_⟩
    have hj : j < (vi (nd v)).length := by
      rcases Nat.lt_or_ge j (vi (nd v)).length with h1 | h1
      · exact h1
      · rw [List.getElem?_eq_none h1] at hx; cases hx
    rw [add_plain, hc j hj, hx]
  have hsp : splice (vi (row (n + e) 0)) 0 (vi (nd v)) = vi (row (n + e) v) := by
    have h1 := wide_row (v := v) (n := n + e) (by rw [HL.out]; omega)
    rw [h1, HL.out, show n + e - n = e by omega]
    have h2 : row (n + e) 0 = row n 0 ++ row e 0 := row_more (Int.le_refl _) (pw_pos n)
    rw [h2, vi_append, vi_append]
    unfold splice
    rw [List.take_zero, List.nil_append, Nat.zero_add, hlen]
    rw [List.drop_append_of_le_length (by rw [vi_length, row_length]; exact Nat.le_refl _), List.drop_of_length_le (by rw [vi_length, row_length]; exact Nat.le_refl _), List.nil_append]
  have hsm : ∀ x ∈ vi (nd v), x.oneCell' = true := by
    intro x hx
    obtain ⟨y, _, rfl⟩ := List.mem_map.1 hx
    rfl
  have hmin : (vi (nd v)).length = Nat.min n (n + e) := by rw [hlen]; exact (Nat.min_eq_left (by omega)).symm
  have hfit : 0 + (vi (nd v)).length ≤ (vi (row (n + e) 0)).length := by rw [hlen, vi_length, row_length]; omega
  have HSP := Lib.hid hsp
  clear hsp hlen
  generalize vi (nd v) = cs at *
  generalize hcur : vi (row (n + e) 0) = cur at *
  have hB' : w1.heap[w.heap.size]? = some (.cells cur.toArray 3 (0, 0)) := by rw [← hcur]; exact hB
  clear hcur hB
  refine Cut.of ?_
  go_wp2_with (with_reducible show wpList _ _ _ _ _ _; refine wpList_copy_splice (o := ⟨some 13, _, _, _, _, _⟩) rfl (.tmp 11) (.tmp 12) 23 23 rfl 3 Tryz.underlying23 hinfo (some ⟨w.heap.size, 0, none⟩) A (n + e) (n + e) n c rfl rfl w.heap.size 0 cur 3 hB' cs hmin hpos hfit hsm w.heap.size w hb1 (Nat.le_refl _) ?_; intro w2 HG2 hB2)
  go_ret
  refine ⟨w.heap.size, Nat.le_refl _, rfl, ?_, hB2⟩
  have h2 := HG2.out
  rw [HSP.out] at h2
  exact h2

theorem cap60_in {T : Nat} (h : ln T ≤ 60) : cap60 T = nd T := if_pos h
theorem cap60_out {T : Nat} (h : 60 < ln T) : cap60 T = [] := if_neg (by omega)

set_option maxHeartbeats 800000 in
theorem natOfRow_any (B g n c T : Nat) (w : World) (hBg : B ≤ g) (hb : Blk w g (row n T)) (hT : ln T ≤ n) (hc : n ≤ c) (hn : n ≤ 1048576) (hcm : c ≤ 1048576) :
    Calls Tryz.prog 35 #[.slice (some ⟨g, 0, none⟩) n c] w (MadeI B (cap60 T) w) := by
  go_enter Tryz.func35, Tryz.ntmps35
  go_wp2
  go_loop [3] (fun i => ∃ k : Nat, k ≤ n ∧ ln T ≤ k ∧ i = .int .i64 (k : Int)) (fun i => (intOf i).toNat)
  case atStart => exact ⟨n, Nat.le_refl _, hT, rfl⟩
  case round =>
    obtain ⟨k, hk, hTk, rfl⟩ := hrel
    by_cases hz : 0 < k ∧ dgt T (k - 1) = 0
    · have hc1 := hb.cell (row_get (n := n) (i := k - 1) T (by omega))
      have h2 := trim_step hz.1 hTk hz.2
      have hp := hz.1
      rw [hz.2] at hc1
      have hk1 : ((k : Int) - 1) = ((k - 1 : Nat) : Int) := by omega
      have hk0 : (0 : Int) ≤ (k : Int) - 1 := by omega
      have hk2 : (k : Int) - 1 < (n : Int) := by omega
      have hkt : ((k : Int) - 1).toNat = k - 1 := by omega
      clear hz
      go_wp2
      go_round
      case rel => exact ⟨k - 1, by omega, h2, by go_num⟩
      case measure => simp [intOf]; omega
    · have hkT : Hid (ln T = k) := by
        refine Lib.hid ?_
        by_cases h0 : 0 < k
        · exact trim_stop h0 hTk (fun e => hz ⟨h0, e⟩)
        · omega
      have fin : k ≤ 60 → MadeI B (cap60 T) w (.returned (.slice (some ⟨g, 0, none⟩) k k)) w := fun h => by
        rw [cap60_in (by rw [hkT.out]; exact h)]
        refine ⟨some ⟨g, 0, none⟩, k, by rw [nd_length, hkT.out], by rw [nd_length, hkT.out]; exact Nat.le_refl _, ?_, Below.refl _ _⟩
        have h1 := (hb.own hBg).take k
        rw [← vi_take, row_take T hk] at h1
        unfold nd
        rw [hkT.out]
        exact h1
      by_cases h0 : 0 < k
      · have hc1 := hb.cell (row_get (n := n) (i := k - 1) T (by omega))
        have hne : dgt T (k - 1) ≠ 0 := fun e => hz ⟨h0, e⟩
        have hk1 : ((k : Int) - 1) = ((k - 1 : Nat) : Int) := by omega
        clear hz
        generalize dgt T (k - 1) = x at hc1 hne
        have q : (x == 0) = false := by rw [beq_eq_false_iff_ne]; exact hne
        by_cases h60 : 60 < k
        · go_wp2
          go_ret
          rw [cap60_out (by rw [hkT.out]; exact h60)]
          exact ⟨none, 0, rfl, Nat.le_refl _, .inl rfl, Below.refl _ _⟩
        · go_wp2
          go_ret
          exact fin (by omega)
      · obtain rfl : k = 0 := by omega
        go_wp2
        go_ret
        exact fin (by omega)

theorem window_any (g off N c i n : Nat) (w : World) (hn : 0 < n) (hi : i + n ≤ c) (hc : c ≤ 1048576) (hN : i ≤ N) (hNc : N ≤ c) :
    Calls Tryz.prog 78 #[.slice (some ⟨g, off, none⟩) N c, .int .i64 (i : Int), .int .i64 (n : Int)] w fun e w' => e = .returned (.slice (some ⟨g, off + i, none⟩) n n) ∧ w = w' := by
  go_enter Tryz.func78, Tryz.ntmps78
  go_wp2
  go_ret
  refine ⟨?_, rfl⟩
  show Ending.returned (.slice (some ⟨g, off + i, none⟩) (i + n - i) (i + n - i)) = _
  rw [Nat.add_sub_cancel_left]
end Go.Proofs.YtmmgcdfifcbabaaGreatDoor
