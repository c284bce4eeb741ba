/-
  What the models' drawing functions leave of natural numbers: 'l31New', 'l01Below', 'l01Pick', 'l02Nat', 'MakeNat'. Only bounds are said of the values drawn.
-/
import Derived.Test.YtmmgcdfifcbabaaGreatDoorDraw
import Derived.Test.YtmmgcdfifcbabaaGreatDoorCmp
import Derived.Test.YtmmgcdfifcbabaaGreatDoorAppI
import Derived.Test.YtmmgcdfifcbabaaGreatDoorRows2
namespace Go.Proofs.YtmmgcdfifcbabaaGreatDoor
open Go.ChangeShapes Go.WideShapes Go.ChangeAt Go.RowKit
open Go.ChangeMaps (open_string shut_string)
set_option linter.unusedVariables false
set_option linter.unusedSimpArgs false
set_option maxRecDepth 4000

theorem CurAt.alloc {w : World} {g : Nat} {A : Option Addr} {n c : Nat} (h : CurAt w g A n c) (o : Obj) : CurAt (w.alloc o) g A n c := by
  obtain ⟨i, hh, hi, hb, hr⟩ := h
  have hg : g < w.heap.size := (Array.getElem?_eq_some_iff.1 hb).1
  refine ⟨i, hh, hi, by rw [Below.heap_alloc w o g hg]; exact hb, ?_⟩
  rcases hr with h0 | ⟨b, off, ha, hbg, hblt, hcs⟩
  · exact .inl h0
  · refine .inr ⟨b, off, ha, hbg, by simp; omega, fun j hj => ?_⟩
    obtain ⟨u, hu, hcu⟩ := hcs j hj
    exact ⟨u, hu, by rw [World.cell?_alloc_lt w _ ⟨b, off + j, none⟩ hblt]; exact hcu⟩
/-- The bytes lie below block B. -/
def Low (A : Option Addr) (n B : Nat) : Prop := n = 0 ∨ ∃ b off, A = some ⟨b, off, none⟩ ∧ b < B
theorem CurAt.low {w : World} {g : Nat} {A : Option Addr} {n c : Nat} (h : CurAt w g A n c) : Low A n w.heap.size := by
  obtain ⟨i, hh, hi, hb, hr⟩ := h
  rcases hr with h0 | ⟨b, off, ha, hbg, hblt, hcs⟩
  · exact .inl h0
  · exact .inr ⟨b, off, ha, hblt⟩
theorem CurAt.lt {w : World} {g : Nat} {A : Option Addr} {n c : Nat} (h : CurAt w g A n c) : g < w.heap.size := by
  obtain ⟨i, hh, hi, hb, hr⟩ := h
  exact (Array.getElem?_eq_some_iff.1 hb).1
theorem CurAt.belowB {w w' : World} {g B : Nat} {A : Option Addr} {n c : Nat} (h : CurAt w g A n c) (hg : g < B) (hA : Low A n B) (hb : Below B w w') : CurAt w' g A n c := by
  obtain ⟨i, hh, hi, hbk, hr⟩ := h
  refine ⟨i, hh, hi, by rw [hb.block g hg]; exact hbk, ?_⟩
  rcases hr with h0 | ⟨b, off, ha, hbg, hblt, hcs⟩
  · exact .inl h0
  · rcases hA with h0 | ⟨b', off', ha', hlt⟩
    · exact .inl h0
    · rw [ha] at ha'
      injection ha' with ha'
      injection ha' with e1 e2
      subst e1
      refine .inr ⟨b, off, ha, hbg, Nat.lt_of_lt_of_le hblt hb.size, fun j hj => ?_⟩
      obtain ⟨u, hu, hcu⟩ := hcs j hj
      exact ⟨u, hu, by rw [hb.cell (p := ⟨b, off + j, none⟩) hlt]; exact hcu⟩
theorem grown2 {w w1 w2 : World} {row : Option Nat} (h : w.grownBy w1 row) (k : w1.grownBy w2 row) : w.grownBy w2 row :=
  ⟨k.os.trans h.os, k.tape.trans h.tape, k.output.trans h.output, Nat.le_trans h.size k.size, fun i hi hne => (k.block i (Nat.lt_of_lt_of_le hi h.size) hne).trans (h.block i hi hne)⟩
theorem grownB {w w1 w2 : World} {row : Option Nat} (h : w.grownBy w1 row) (k : Below w.heap.size w1 w2) : w.grownBy w2 row :=
  ⟨k.os.trans h.os, k.tape.trans h.tape, k.output.trans h.output, Nat.le_trans h.size k.size, fun i hi hne => (k.block i hi).trans (h.block i hi hne)⟩
theorem owns_grown {w w' : World} {B n g : Nat} {e : TypeId} {v : Value} {xs : List Value} (h : w.ownsRow B e 1 v n xs) (hg : w.grownBy w' (some g)) (hgB : g < B) : w'.ownsRow B e 1 v n xs := by
  obtain ⟨hl, hr⟩ := h
  refine ⟨hl, ?_⟩
  rcases hr with hr | ⟨k, cap, cur, hv, hB, hh, h1, h2, h3, h4⟩
  · exact .inl hr
  · have hk : k < w.heap.size := (Array.getElem?_eq_some_iff.1 hh).1
    exact .inr ⟨k, cap, cur, hv, hB, by rw [hg.block k hk (by intro q; injection q with q; omega)]; exact hh, h1, h2, h3, h4⟩
theorem owns_alloc {w : World} {B n : Nat} {e : TypeId} {v : Value} {xs : List Value} (h : w.ownsRow B e 1 v n xs) (o : Obj) : (w.alloc o).ownsRow B e 1 v n xs := owns_below h ((Below.refl _ _).alloc (Nat.le_refl _) _)
theorem owns_take {w : World} {B n k c : Nat} {e : TypeId} {A : Option Addr} {xs : List Value} (h : w.ownsRow B e 1 (.slice A n c) n xs) (hk : k ≤ n) : w.ownsRow B e 1 (.slice A k c) k (xs.take k) := by
  obtain ⟨hl, hr⟩ := h
  refine ⟨by rw [List.length_take, hl]; omega, ?_⟩
  rcases hr with ⟨hv, h0⟩ | ⟨g, cap, cur, hv, hB, hh, h1, h2, h3, h4⟩
  · injection hv with e1 e2 e3
    obtain rfl : k = 0 := by omega
    subst e1; subst e3
    exact .inl ⟨rfl, rfl⟩
  · injection hv with e1 e2 e3
    subst e1; subst e3
    refine .inr ⟨g, c, cur, rfl, hB, hh, by omega, h2, h3, ?_⟩
    rw [← h4, List.take_take]
    congr 1
    omega

set_option maxHeartbeats 400000 in
theorem below_big (g : Nat) (A : Option Addr) (n c : Nat) (w : World) (hn : n ≤ 1048576) (hc : CurAt w g A n c) :
    Calls Tryz.prog 27 #[.pointer (some ⟨g, 0, none⟩), .int .i64 1000000000] w (BelowPost 1000000000 g A n c w) := by
  go_enter Tryz.func27, Tryz.ntmps27
  go_wp2_with fail
  refine (byte_any g A n c _ hn hc).mono ?_
  rintro e w1 ⟨x, hx0, hx1, rfl, hc1, hg1⟩
  go_wp2_with fail
  refine (byte_any g A n c _ hn hc1).mono ?_
  rintro e w2 ⟨y, hy0, hy1, rfl, hc2, hg2⟩
  go_wp2_with fail
  refine (byte_any g A n c _ hn hc2).mono ?_
  rintro e w3 ⟨z, hz0, hz1, rfl, hc3, hg3⟩
  go_wp2_with fail
  refine (byte_any g A n c _ hn hc3).mono ?_
  rintro e w4 ⟨u, hu0, hu1, rfl, hc4, hg4⟩
  have hmod0 : 0 ≤ (x * 16777216 + y * 65536 + z * 256 + u) % 1000000000 := Int.emod_nonneg _ (by omega)
  have hmod1 : (x * 16777216 + y * 65536 + z * 256 + u) % 1000000000 < 1000000000 := Int.emod_lt_of_pos _ (by omega)
  have hG := grown2 (grown2 (grown2 hg1 hg2) hg3) hg4
  clear hc hc1 hc2 hc3 hg1 hg2 hg3 hg4
  go_wp2_with fail
  go_ret
  exact ⟨_, hmod0, hmod1, rfl, hc4, hG⟩

/-- Seven digits at block b. -/
def Seven (w : World) (b : Nat) : Prop := b < w.heap.size ∧ ∀ j, j < 7 → ∃ x : Int, 0 ≤ x ∧ x < 1000000000 ∧ w.cell? ⟨b, j, none⟩ = some (.int .i64 x)
def DigPost (g : Nat) (A : Option Addr) (n c : Nat) (w : World) (e : Ending) (w' : World) : Prop := ∃ x : Int, 0 ≤ x ∧ x < 1000000000 ∧ e = .returned (.int .i64 x) ∧ CurAt w' g A n c ∧ w.grownBy w' (some g)
set_option maxHeartbeats 400000 in
theorem pick_any (g b : Nat) (A : Option Addr) (n c d : Nat) (w : World) (hn : n ≤ 1048576) (hc : CurAt w g A n c) (h7 : Seven w b) (hne : b ≠ g) :
    Calls Tryz.prog 48 #[.pointer (some ⟨g, 0, none⟩), .slice (some ⟨b, 0, none⟩) 7 d] w (DigPost g A n c w) := by
  have H := Lib.hid (below_any 7 g A n c w (by omega) (by omega) hn hc)
  have H7 := Lib.hid h7
  clear hc h7
  go_enter Tryz.func48, Tryz.ntmps48
  go_wp2_with fail
  refine (Hid.out H).mono ?_
  rintro e w1 ⟨x, hx0, hx1, rfl, hc1, hg1⟩
  obtain ⟨k, rfl⟩ := Int.eq_ofNat_of_zero_le hx0
  obtain ⟨s, hs0, hs1, hcs⟩ := H7.out.2 k (by omega)
  have hcs1 : w1.cell? ⟨b, k, none⟩ = some (.int .i64 s) := by
    rw [World.cell?_of_block (w := w) (a := ⟨b, k, none⟩) (hg1.block b H7.out.1 (fun e => hne (by injection e)))]; exact hcs
  clear hcs H
  go_wp2_with fail
  go_ret
  exact ⟨s, hs0, hs1, rfl, hc1, hg1⟩

set_option maxHeartbeats 400000 in
theorem new31_n (m : Nat) (x : Int) (A : Option Addr) (n c : Nat) (w : World) (hx : x = (m : Int)) (hm : m ≤ 1000) (hn : n ≤ 1048576) (hA : RdB w A n w.heap.size) :
    Calls Tryz.prog 12 #[.slice A n c, .int .i64 x] w fun e w' => e = .returned (.pointer (some ⟨w.heap.size, 0, none⟩)) ∧ CurAt w' w.heap.size A n c ∧ Below w.heap.size w w' := by
  subst hx
  have H := Lib.hid (new_any A n c w hn hA)
  clear hA
  go_enter Tryz.func12, Tryz.ntmps12
  go_wp2_with fail
  refine (Hid.out H).mono ?_
  rintro e w1 ⟨rfl, hc1, hb1, hs1⟩
  go_wp2_with fail
  go_loopw [6] (fun i w' => ∃ k : Nat, k ≤ m ∧ i = .int .i64 (k : Int) ∧ CurAt w' w.heap.size A n c ∧ Below w.heap.size w w') (fun i _ => m - (intOf i).toNat)
  case atStart => exact ⟨0, by omega, rfl, hc1, hb1⟩
  case round =>
    clear hc1 hb1
    obtain ⟨k, hk, rfl, hc, hb⟩ := hrel
    by_cases hlt : k < m
    · go_wp2_with fail
      refine (byte_any _ A n c _ hn hc).mono ?_
      rintro e w2 ⟨x, hx0, hx1, rfl, hc2, hg2⟩
      go_wp2_with fail
      go_roundw
      case rel => exact ⟨k + 1, by omega, by go_num, hc2, below_own hb hg2 (Nat.le_refl _)⟩
      case measure => simp [intOf]; omega
    · obtain rfl : k = m := by omega
      go_wp2_with fail
      go_ret
      exact ⟨rfl, hc, hb⟩

set_option maxHeartbeats 400000 in
/-- 'l02Trim' cuts the row where it lies. -/
theorem trim_at (B n c T : Nat) (A : Option Addr) (w : World) (ho : OwnS B w A (vi (row n T))) (hT : ln T ≤ n) (hc : n ≤ c) (hn : n ≤ 1048576) :
    Calls Tryz.prog 49 #[.slice A n c] w fun e w' => e = .returned (.slice A (ln T) c) ∧ w = w' := by
  by_cases h0 : n = 0
  · subst h0
    have hz : Hid (ln T = 0) := Lib.hid (by omega)
    clear ho hT
    cases A with
    | none =>
      go_enter Tryz.func49, Tryz.ntmps49
      go_wp2
      go_loop [3] (fun i => i = .int .i64 0) (fun i => 0)
      case atStart => exact rfl
      case round =>
        obtain rfl := hrel
        go_wp2
        go_ret
        exact ⟨by rw [hz.out]; rfl, rfl⟩
    | some ad =>
      go_enter Tryz.func49, Tryz.ntmps49
      go_wp2
      go_loop [3] (fun i => i = .int .i64 0) (fun i => 0)
      case atStart => exact rfl
      case round =>
        obtain rfl := hrel
        go_wp2
        go_ret
        exact ⟨by rw [hz.out]; rfl, rfl⟩
  · obtain ⟨g, rfl, hBg, hgw, hcell, hfr⟩ := ho.block (by rw [vi_length, row_length]; omega)
    have hrd := ho.rd
    clear ho hcell hfr
    go_enter Tryz.func49, Tryz.ntmps49
    go_wp2
    go_loop [3] (fun i => ∃ k : Nat, k ≤ n ∧ ln T ≤ k ∧ i = .int .i64 (k : Int)) (fun i => (intOf i).toNat)
    case atStart => exact ⟨n, Nat.le_refl _, hT, rfl⟩
    case round =>
      obtain ⟨k, hk, hTk, rfl⟩ := hrel
      by_cases hz : 0 < k ∧ dgt T (k - 1) = 0
      · have hc1 := hrd.int_at (row_get (n := n) (i := k - 1) T (by omega))
        rw [Nat.zero_add] at hc1
        have h2 := trim_step hz.1 hTk hz.2
        have hp := hz.1
        rw [hz.2] at hc1
        have hk1 : ((k : Int) - 1) = ((k - 1 : Nat) : Int) := by omega
        have hk0 : (0 : Int) ≤ (k : Int) - 1 := by omega
        have hk2 : (k : Int) - 1 < (n : Int) := by omega
        have hkt : ((k : Int) - 1).toNat = k - 1 := by omega
        clear hz
        go_wp2
        go_round
        case rel => exact ⟨k - 1, by omega, h2, by go_num⟩
        case measure => simp [intOf]; omega
      · have hkT : Hid (ln T = k) := by
          refine Lib.hid ?_
          by_cases h0 : 0 < k
          · exact trim_stop h0 hTk (fun e => hz ⟨h0, e⟩)
          · omega
        by_cases h0 : 0 < k
        · have hc1 := hrd.int_at (row_get (n := n) (i := k - 1) T (by omega))
          rw [Nat.zero_add] at hc1
          have hne : dgt T (k - 1) ≠ 0 := fun e => hz ⟨h0, e⟩
          have hk1 : ((k : Int) - 1) = ((k - 1 : Nat) : Int) := by omega
          clear hz
          generalize dgt T (k - 1) = x at hc1 hne
          have q : (x == 0) = false := by rw [beq_eq_false_iff_ne]; exact hne
          go_wp2
          go_ret
          exact ⟨by rw [hkT.out]; rfl, rfl⟩
        · obtain rfl : k = 0 := by omega
          go_wp2
          go_ret
          exact ⟨by rw [hkT.out]; rfl, rfl⟩

/-- A number drawn, in a row of the call's own. -/
def NatPost (B : Nat) (w : World) (e : Ending) (w' : World) : Prop := ∃ (v : Nat) (A : Option Addr) (c : Nat), ln v ≤ 3 ∧ e = .returned (.slice A (ln v) c) ∧ w'.ownsRow B 3 1 (.slice A (ln v) c) (ln v) (vi (nd v))
theorem digs_snoc {l : List Int} {x : Int} (h : Digs l) (h0 : 0 ≤ x) (h1 : x < 1000000000) : Digs (l ++ [x]) := fun y hy => by
  rw [List.mem_append] at hy
  rcases hy with hy | hy
  · exact h y hy
  · obtain rfl : y = x := by simpa using hy
    exact ⟨h0, h1⟩
theorem seven_new (w : World) (x y : Int) (hx0 : 0 ≤ x) (hx1 : x < 1000000000) (hy0 : 0 ≤ y) (hy1 : y < 1000000000) : Seven (w.alloc (.cells #[.int .i64 0, .int .i64 1, .int .i64 2, .int .i64 999999999, .int .i64 500000000, .int .i64 x, .int .i64 y] 3)) w.heap.size := by
  refine ⟨by simp, fun j hj => ?_⟩
  rw [World.cell?_alloc_new]
  match j, hj with
  | 0, _ => exact ⟨_, by decide, by decide, rfl⟩
  | 1, _ => exact ⟨_, by decide, by decide, rfl⟩
  | 2, _ => exact ⟨_, by decide, by decide, rfl⟩
  | 3, _ => exact ⟨_, by decide, by decide, rfl⟩
  | 4, _ => exact ⟨_, by decide, by decide, rfl⟩
  | 5, _ => exact ⟨_, hx0, hx1, rfl⟩
  | 6, _ => exact ⟨_, hy0, hy1, rfl⟩

set_option maxHeartbeats 1000000 in
theorem l02Nat_any (g : Nat) (A : Option Addr) (n c : Nat) (w : World) (hn : n ≤ 1048576) (hc : CurAt w g A n c) :
    Calls Tryz.prog 29 #[.pointer (some ⟨g, 0, none⟩), .int .i64 3] w fun e w' => NatPost w.heap.size w e w' ∧ w.grownBy w' (some g) := by
  have hlow := hc.low
  have hgw := hc.lt
  have hs0 : (w.alloc (.cells #[] 3)).ownsRow w.heap.size 3 1 (.slice (some ⟨w.heap.size, 0, none⟩) 0 0) 0 (vi []) := World.ownsRow_made w #[] 0 (by omega) (by simp [maxLen]) rfl
  go_enter Tryz.func29, Tryz.ntmps29
  go_wp2_with fail
  have hg0 : w.grownBy (w.alloc (.cells #[] 3)) (some g) := grownB (grown_refl _ _) ((Below.refl _ _).alloc (Nat.le_refl _) _)
  refine (below_any 4 g A n c _ (by omega) (by omega) hn (hc.alloc _)).mono ?_
  rintro e w2 ⟨x, hx0, hx1, rfl, hc2, hg2⟩
  obtain ⟨k, rfl⟩ := Int.eq_ofNat_of_zero_le hx0
  have hs2 := owns_grown hs0 hg2 hgw
  have hG := grown2 hg0 hg2
  clear hs0 hg0 hg2 hc
  go_wp2_with fail
  go_loopw [5, 6] (fun a i w' => ∃ (m l : Nat) (xs : List Int), m + l ≤ 3 ∧ l = xs.length ∧ i = .int .i64 (m : Int) ∧ w'.ownsRow w.heap.size 3 1 a l (vi xs) ∧ Digs xs ∧ CurAt w' g A n c ∧ w.grownBy w' (some g)) (fun _ i _ => (intOf i).toNat)
  case atStart => exact ⟨k, 0, [], by omega, rfl, rfl, hs2, (fun _ h => by cases h), hc2, hG⟩
  case round =>
    clear hs2 hc2 hG
    obtain ⟨m, l, xs, hml, hl, rfl, hown, hdg, hc, hG⟩ := hrel
    have HL := Lib.hid hl
    have HD := Lib.hid hdg
    clear hl hdg
    by_cases hm : 0 < m
    · have hm' : (0 : Int) < (m : Int) := by omega
      go_wp2_with fail
      refine (below_big g A n c _ hn hc).mono ?_
      rintro e w3 ⟨x, hx0, hx1, rfl, hc3, hg3⟩
      have hG3 := grown2 hG hg3
      have hown3 := owns_grown hown hg3 hgw
      clear hc hg3 hG hown
      go_wp2_with fail
      refine (below_big g A n c _ hn hc3).mono ?_
      rintro e w4 ⟨y, hy0, hy1, rfl, hc4, hg4⟩
      have hG4 := grown2 hG3 hg4
      have hown4 := owns_grown hown3 hg4 hgw
      clear hc3 hg4 hG3 hown3
      go_wp2_with fail
      have h7 := seven_new w4 x y hx0 hx1 hy0 hy1
      have hc5 := hc4.alloc (.cells #[.int .i64 0, .int .i64 1, .int .i64 2, .int .i64 999999999, .int .i64 500000000, .int .i64 x, .int .i64 y] 3)
      have hne : w4.heap.size ≠ g := by have := hc4.lt; omega
      have hG5 := grownB hG4 ((Below.refl w.heap.size w4).alloc hG4.size (.cells #[.int .i64 0, .int .i64 1, .int .i64 2, .int .i64 999999999, .int .i64 500000000, .int .i64 x, .int .i64 y] 3))
      have hown5 := owns_alloc hown4 (.cells #[.int .i64 0, .int .i64 1, .int .i64 2, .int .i64 999999999, .int .i64 500000000, .int .i64 x, .int .i64 y] 3)
      refine (pick_any g w4.heap.size A n c 7 _ hn hc5 h7 hne).mono ?_
      rintro e w6 ⟨t, ht0, ht1, rfl, hc6, hg6⟩
      have hG6 := grown2 hG5 hg6
      have hown6 := owns_grown hown5 hg6 hgw
      clear hc4 hc5 h7 hg6 hG4 hG5 hown4 hown5
      have hsz6 := hG6.size
      go_wp2_with (at_builtin; refine append_int rfl (.tmp 16) (.tmp 24) rfl w.heap.size l _ xs t w6 rfl rfl hown6 (by omega) hsz6 ?_; intro v' w7 hown7 hb7 hs7; refine cut_here ?_)
      have hc7 := hc6.belowB hgw hlow hb7
      have hG7 := grownB hG6 hb7
      refine Cut.of ?_
      go_wp2_with fail
      go_roundw
      case rel => exact ⟨m - 1, l + 1, xs ++ [t], by omega, by rw [HL.out, List.length_append]; rfl, by congr 1; omega, hown7, digs_snoc HD.out ht0 ht1, hc7, hG7⟩
      case measure => simp [intOf]; omega
    · obtain rfl : m = 0 := by omega
      obtain ⟨A', c', rfl, hcc, hmx, _⟩ := own_len hown
      have hO := OwnS.of_own hown
      obtain ⟨hrow, hlt⟩ := row_val xs HD.out
      rw [← HL.out] at hrow hlt
      have hT : ln (val xs) ≤ l := ln_le_iff.2 hlt
      have hO' : OwnS w.heap.size wr A' (vi (row l (val xs))) := by rw [hrow]; exact hO
      have HT := Lib.hid (trim_at w.heap.size l c' (val xs) A' wr hO' hT hcc (by omega))
      have hfin := owns_take hown hT
      rw [← vi_take] at hfin
      have hnd : xs.take (ln (val xs)) = nd (val xs) := by
        unfold nd
        rw [← row_take (n := l) (val xs) hT, hrow]
      rw [hnd] at hfin
      have HF := Lib.hid hfin
      have H3 := Lib.hid (show ln (val xs) ≤ 3 by omega)
      clear hrow hlt hT hO hO' hfin hnd hown
      go_wp2_with fail
      refine HT.out.mono ?_
      rintro e w3 ⟨rfl, rfl⟩
      go_wp2_with fail
      go_ret
      exact ⟨⟨val xs, A', c', H3.out, rfl, HF.out⟩, hG⟩

end Go.Proofs.YtmmgcdfifcbabaaGreatDoor
