/-
  What the models' drawing functions leave of natural numbers: 'l31New', 'l01Below', 'l01Pick', 'l02Nat', 'MakeNat'. Only bounds are said of the values drawn.
-/
import Derived.Test.YtkmfbanlkglkmabGreatDoorDraw
import Derived.Test.YtkmfbanlkglkmabGreatDoorDkA
namespace Go.Proofs.YtkmfbanlkglkmabGreatDoor
open Go.ChangeShapes Go.WideShapes Go.ChangeAt Go.RowKit
open Go.ChangeMaps (open_string shut_string)
set_option linter.unusedVariables false
set_option linter.unusedSimpArgs false
set_option maxRecDepth 4000

theorem CurAt.alloc {w : World} {g : Nat} {A : Option Addr} {n c : Nat} (h : CurAt w g A n c) (o : Obj) : CurAt (w.alloc o) g A n c := by
  obtain ⟨i, hh, hi, hb, hr⟩ := h
  have hg : g < w.heap.size := (Array.getElem?_eq_some_iff.1 hb).1
  refine ⟨i, hh, hi, by rw [Below.heap_alloc w o g hg]; exact hb, ?_⟩
  rcases hr with h0 | ⟨b, off, ha, hbg, hblt, hcs⟩
  · exact .inl h0
  · refine .inr ⟨b, off, ha, hbg, by simp; omega, fun j hj => ?_⟩
    obtain ⟨u, hu, hcu⟩ := hcs j hj
    exact ⟨u, hu, by rw [World.cell?_alloc_lt w _ ⟨b, off + j, none⟩ hblt]; exact hcu⟩
/-- The bytes lie below block B. -/
def Low (A : Option Addr) (n B : Nat) : Prop := n = 0 ∨ ∃ b off, A = some ⟨b, off, none⟩ ∧ b < B
theorem CurAt.low {w : World} {g : Nat} {A : Option Addr} {n c : Nat} (h : CurAt w g A n c) : Low A n w.heap.size := by
  obtain ⟨i, hh, hi, hb, hr⟩ := h
  rcases hr with h0 | ⟨b, off, ha, hbg, hblt, hcs⟩
  · exact .inl h0
  · exact .inr ⟨b, off, ha, hblt⟩
theorem CurAt.lt {w : World} {g : Nat} {A : Option Addr} {n c : Nat} (h : CurAt w g A n c) : g < w.heap.size := by
  obtain ⟨i, hh, hi, hb, hr⟩ := h
  exact (Array.getElem?_eq_some_iff.1 hb).1
theorem CurAt.belowB {w w' : World} {g B : Nat} {A : Option Addr} {n c : Nat} (h : CurAt w g A n c) (hg : g < B) (hA : Low A n B) (hb : Below B w w') : CurAt w' g A n c := by
  obtain ⟨i, hh, hi, hbk, hr⟩ := h
  refine ⟨i, hh, hi, by rw [hb.block g hg]; exact hbk, ?_⟩
  rcases hr with h0 | ⟨b, off, ha, hbg, hblt, hcs⟩
  · exact .inl h0
  · rcases hA with h0 | ⟨b', off', ha', hlt⟩
    · exact .inl h0
    · rw [ha] at ha'
      injection ha' with ha'
      injection ha' with e1 e2
      subst e1
      refine .inr ⟨b, off, ha, hbg, Nat.lt_of_lt_of_le hblt hb.size, fun j hj => ?_⟩
      obtain ⟨u, hu, hcu⟩ := hcs j hj
      exact ⟨u, hu, by rw [hb.cell (p := ⟨b, off + j, none⟩) hlt]; exact hcu⟩
theorem grown2 {w w1 w2 : World} {row : Option Nat} (h : w.grownBy w1 row) (k : w1.grownBy w2 row) : w.grownBy w2 row :=
  ⟨k.os.trans h.os, k.tape.trans h.tape, k.output.trans h.output, Nat.le_trans h.size k.size, fun i hi hne => (k.block i (Nat.lt_of_lt_of_le hi h.size) hne).trans (h.block i hi hne)⟩
theorem grownB {w w1 w2 : World} {row : Option Nat} (h : w.grownBy w1 row) (k : Below w.heap.size w1 w2) : w.grownBy w2 row :=
  ⟨k.os.trans h.os, k.tape.trans h.tape, k.output.trans h.output, Nat.le_trans h.size k.size, fun i hi hne => (k.block i hi).trans (h.block i hi hne)⟩
theorem owns_grown {w w' : World} {B n g : Nat} {e : TypeId} {v : Value} {xs : List Value} (h : w.ownsRow B e 1 v n xs) (hg : w.grownBy w' (some g)) (hgB : g < B) : w'.ownsRow B e 1 v n xs := by
  obtain ⟨hl, hr⟩ := h
  refine ⟨hl, ?_⟩
  rcases hr with hr | ⟨k, cap, cur, hv, hB, hh, h1, h2, h3, h4⟩
  · exact .inl hr
  · have hk : k < w.heap.size := (Array.getElem?_eq_some_iff.1 hh).1
    exact .inr ⟨k, cap, cur, hv, hB, by rw [hg.block k hk (by intro q; injection q with q; omega)]; exact hh, h1, h2, h3, h4⟩
theorem owns_alloc {w : World} {B n : Nat} {e : TypeId} {v : Value} {xs : List Value} (h : w.ownsRow B e 1 v n xs) (o : Obj) : (w.alloc o).ownsRow B e 1 v n xs := owns_below h ((Below.refl _ _).alloc (Nat.le_refl _) _)
theorem owns_take {w : World} {B n k c : Nat} {e : TypeId} {A : Option Addr} {xs : List Value} (h : w.ownsRow B e 1 (.slice A n c) n xs) (hk : k ≤ n) : w.ownsRow B e 1 (.slice A k c) k (xs.take k) := by
  obtain ⟨hl, hr⟩ := h
  refine ⟨by rw [List.length_take, hl]; omega, ?_⟩
  rcases hr with ⟨hv, h0⟩ | ⟨g, cap, cur, hv, hB, hh, h1, h2, h3, h4⟩
  · injection hv with e1 e2 e3
    obtain rfl : k = 0 := by omega
    subst e1; subst e3
    exact .inl ⟨rfl, rfl⟩
  · injection hv with e1 e2 e3
    subst e1; subst e3
    refine .inr ⟨g, c, cur, rfl, hB, hh, by omega, h2, h3, ?_⟩
    rw [← h4, List.take_take]
    congr 1
    omega

set_option maxHeartbeats 400000 in
theorem below_big (g : Nat) (A : Option Addr) (n c : Nat) (w : World) (hn : n ≤ 1048576) (hc : CurAt w g A n c) :
    Calls Tryz.prog 100 #[.pointer (some ⟨g, 0, none⟩), .int .i64 1000000000] w (BelowPost 1000000000 g A n c w) := by
  go_enter Tryz.func100, Tryz.ntmps100
  go_wp2_with fail
  refine (byte_any g A n c _ hn hc).mono ?_
  rintro e w1 ⟨x, hx0, hx1, rfl, hc1, hg1⟩
  go_wp2_with fail
  refine (byte_any g A n c _ hn hc1).mono ?_
  rintro e w2 ⟨y, hy0, hy1, rfl, hc2, hg2⟩
  go_wp2_with fail
  refine (byte_any g A n c _ hn hc2).mono ?_
  rintro e w3 ⟨z, hz0, hz1, rfl, hc3, hg3⟩
  go_wp2_with fail
  refine (byte_any g A n c _ hn hc3).mono ?_
  rintro e w4 ⟨u, hu0, hu1, rfl, hc4, hg4⟩
  have hmod0 : 0 ≤ (x * 16777216 + y * 65536 + z * 256 + u) % 1000000000 := Int.emod_nonneg _ (by omega)
  have hmod1 : (x * 16777216 + y * 65536 + z * 256 + u) % 1000000000 < 1000000000 := Int.emod_lt_of_pos _ (by omega)
  have hG := grown2 (grown2 (grown2 hg1 hg2) hg3) hg4
  clear hc hc1 hc2 hc3 hg1 hg2 hg3 hg4
  go_wp2_with fail
  go_ret
  exact ⟨_, hmod0, hmod1, rfl, hc4, hG⟩

/-- Seven digits at block b. -/
def Seven (w : World) (b : Nat) : Prop := b < w.heap.size ∧ ∀ j, j < 7 → ∃ x : Int, 0 ≤ x ∧ x < 1000000000 ∧ w.cell? ⟨b, j, none⟩ = some (.int .i64 x)
def DigPost (g : Nat) (A : Option Addr) (n c : Nat) (w : World) (e : Ending) (w' : World) : Prop := ∃ x : Int, 0 ≤ x ∧ x < 1000000000 ∧ e = .returned (.int .i64 x) ∧ CurAt w' g A n c ∧ w.grownBy w' (some g)
set_option maxHeartbeats 400000 in
theorem pick_any (g b : Nat) (A : Option Addr) (n c d : Nat) (w : World) (hn : n ≤ 1048576) (hc : CurAt w g A n c) (h7 : Seven w b) (hne : b ≠ g) :
    Calls Tryz.prog 101 #[.pointer (some ⟨g, 0, none⟩), .slice (some ⟨b, 0, none⟩) 7 d] w (DigPost g A n c w) := by
  have H := Lib.hid (below_any 7 g A n c w (by omega) (by omega) hn hc)
  have H7 := Lib.hid h7
  clear hc h7
  go_enter Tryz.func101, Tryz.ntmps101
  go_wp2_with fail
  refine (Hid.out H).mono ?_
  rintro e w1 ⟨x, hx0, hx1, rfl, hc1, hg1⟩
  obtain ⟨k, rfl⟩ := Int.eq_ofNat_of_zero_le hx0
  obtain ⟨s, hs0, hs1, hcs⟩ := H7.out.2 k (by omega)
  have hcs1 : w1.cell? ⟨b, k, none⟩ = some (.int .i64 s) := by
    rw [World.cell?_of_block (w := w) (a := ⟨b, k, none⟩) (hg1.block b H7.out.1 (fun e => hne (by injection e)))]; exact hcs
  clear hcs H
  go_wp2_with fail
  go_ret
  exact ⟨s, hs0, hs1, rfl, hc1, hg1⟩

set_option maxHeartbeats 400000 in
theorem new31_n (m : Nat) (x : Int) (A : Option Addr) (n c : Nat) (w : World) (hx : x = (m : Int)) (hm : m ≤ 1000) (hn : n ≤ 1048576) (hA : RdB w A n w.heap.size) :
    Calls Tryz.prog 52 #[.slice A n c, .int .i64 x] w fun e w' => e = .returned (.pointer (some ⟨w.heap.size, 0, none⟩)) ∧ CurAt w' w.heap.size A n c ∧ Below w.heap.size w w' := by
  subst hx
  have H := Lib.hid (new_any A n c w hn hA)
  clear hA
  go_enter Tryz.func52, Tryz.ntmps52
  go_wp2_with fail
  refine (Hid.out H).mono ?_
  rintro e w1 ⟨rfl, hc1, hb1, hs1⟩
  go_wp2_with fail
  go_loopw [6] (fun i w' => ∃ k : Nat, k ≤ m ∧ i = .int .i64 (k : Int) ∧ CurAt w' w.heap.size A n c ∧ Below w.heap.size w w') (fun i _ => m - (intOf i).toNat)
  case atStart => exact ⟨0, by omega, rfl, hc1, hb1⟩
  case round =>
    clear hc1 hb1
    obtain ⟨k, hk, rfl, hc, hb⟩ := hrel
    by_cases hlt : k < m
    · go_wp2_with fail
      refine (byte_any _ A n c _ hn hc).mono ?_
      rintro e w2 ⟨x, hx0, hx1, rfl, hc2, hg2⟩
      go_wp2_with fail
      go_roundw
      case rel => exact ⟨k + 1, by omega, by go_num, hc2, below_own hb hg2 (Nat.le_refl _)⟩
      case measure => simp [intOf]; omega
    · obtain rfl : k = m := by omega
      go_wp2_with fail
      go_ret
      exact ⟨rfl, hc, hb⟩

set_option maxHeartbeats 400000 in
/-- 'l02Trim' cuts the row where it lies. -/
theorem trim_at (B n c T : Nat) (A : Option Addr) (w : World) (ho : OwnS B w A (vi (row n T))) (hT : ln T ≤ n) (hc : n ≤ c) (hn : n ≤ 1048576) :
    Calls Tryz.prog 142 #[.slice A n c] w fun e w' => e = .returned (.slice A (ln T) c) ∧ w = w' := by
  by_cases h0 : n = 0
  · subst h0
    have hz : Hid (ln T = 0) := Lib.hid (by omega)
    clear ho hT
    cases A with
    | none =>
      go_enter Tryz.func142, Tryz.ntmps142
      go_wp2
      go_loop [3] (fun i => i = .int .i64 0) (fun i => 0)
      case atStart => exact rfl
      case round =>
        obtain rfl := hrel
        go_wp2
        go_ret
        exact ⟨by rw [hz.out]; rfl, rfl⟩
    | some ad =>
      go_enter Tryz.func142, Tryz.ntmps142
      go_wp2
      go_loop [3] (fun i => i = .int .i64 0) (fun i => 0)
      case atStart => exact rfl
      case round =>
        obtain rfl := hrel
        go_wp2
        go_ret
        exact ⟨by rw [hz.out]; rfl, rfl⟩
  · obtain ⟨g, rfl, hBg, hgw, hcell, hfr⟩ := ho.block (by rw [vi_length, row_length]; omega)
    have hrd := ho.rd
    clear ho hcell hfr
    go_enter Tryz.func142, Tryz.ntmps142
    go_wp2
    go_loop [3] (fun i => ∃ k : Nat, k ≤ n ∧ ln T ≤ k ∧ i = .int .i64 (k : Int)) (fun i => (intOf i).toNat)
    case atStart => exact ⟨n, Nat.le_refl _, hT, rfl⟩
    case round =>
      obtain ⟨k, hk, hTk, rfl⟩ := hrel
      by_cases hz : 0 < k ∧ dgt T (k - 1) = 0
      · have hc1 := hrd.int_at (row_get (n := n) (i := k - 1) T (by omega))
        rw [Nat.zero_add] at hc1
        have h2 := trim_step hz.1 hTk hz.2
        have hp := hz.1
        rw [hz.2] at hc1
        have hk1 : ((k : Int) - 1) = ((k - 1 : Nat) : Int) := by omega
        have hk0 : (0 : Int) ≤ (k : Int) - 1 := by omega
        have hk2 : (k : Int) - 1 < (n : Int) := by omega
        have hkt : ((k : Int) - 1).toNat = k - 1 := by omega
        clear hz
        go_wp2
        go_round
        case rel => exact ⟨k - 1, by omega, h2, by go_num⟩
        case measure => simp [intOf]; omega
      · have hkT : Hid (ln T = k) := by
          refine Lib.hid ?_
          by_cases h0 : 0 < k
          · exact trim_stop h0 hTk (fun e => hz ⟨h0, e⟩)
          · omega
        by_cases h0 : 0 < k
        · have hc1 := hrd.int_at (row_get (n := n) (i := k - 1) T (by omega))
          rw [Nat.zero_add] at hc1
          have hne : dgt T (k - 1) ≠ 0 := fun e => hz ⟨h0, e⟩
          have hk1 : ((k : Int) - 1) = ((k - 1 : Nat) : Int) := by omega
          clear hz
          generalize dgt T (k - 1) = x at hc1 hne
          have q : (x == 0) = false := by rw [beq_eq_false_iff_ne]; exact hne
          go_wp2
          go_ret
          exact ⟨by rw [hkT.out]; rfl, rfl⟩
        · obtain rfl : k = 0 := by omega
          go_wp2
          go_ret
          exact ⟨by rw [hkT.out]; rfl, rfl⟩

/-- A number drawn, in a row of the call's own. -/
def NatPost (B : Nat) (w : World) (e : Ending) (w' : World) : Prop := ∃ (v : Nat) (A : Option Addr) (c : Nat), ln v ≤ 3 ∧ e = .returned (.slice A (ln v) c) ∧ w'.ownsRow B 3 1 (.slice A (ln v) c) (ln v) (vi (nd v))
theorem digs_snoc {l : List Int} {x : Int} (h : Digs l) (h0 : 0 ≤ x) (h1 : x < 1000000000) : Digs (l ++ [x]) := fun y hy => by
  rw [List.mem_append] at hy
  rcases hy with hy | hy
  · exact h y hy
  · obtain rfl : y = x := by simpa using hy
    exact ⟨h0, h1⟩
theorem seven_new (w : World) (x y : Int) (hx0 : 0 ≤ x) (hx1 : x < 1000000000) (hy0 : 0 ≤ y) (hy1 : y < 1000000000) : Seven (w.alloc (.cells #[.int .i64 0, .int .i64 1, .int .i64 2, .int .i64 999999999, .int .i64 500000000, .int .i64 x, .int .i64 y] 3)) w.heap.size := by
  refine ⟨by simp, fun j hj => ?_⟩
  rw [World.cell?_alloc_new]
  match j, hj with
  | 0, _ => exact ⟨_, by decide, by decide, rfl⟩
  | 1, _ => exact ⟨_, by decide, by decide, rfl⟩
  | 2, _ => exact ⟨_, by decide, by decide, rfl⟩
  | 3, _ => exact ⟨_, by decide, by decide, rfl⟩
  | 4, _ => exact ⟨_, by decide, by decide, rfl⟩
  | 5, _ => exact ⟨_, hx0, hx1, rfl⟩
  | 6, _ => exact ⟨_, hy0, hy1, rfl⟩

end Go.Proofs.YtkmfbanlkglkmabGreatDoor
