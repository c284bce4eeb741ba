/-
  What the models' drawing functions leave: 'l01New', 'l01Byte', 'l01Below', 'l01Str', 'MakeNum', 'MakeText'. Only bounds are said of the values drawn.
-/
import Derived.Test.YtppdholccpgcpaaGreatPkA
namespace Go.Proofs.YtppdholccpgcpaaGreat
set_option maxHeartbeats 800000
open Go.ChangeShapes Go.WideShapes Go.ChangeAt Go.RowKit
set_option linter.unusedVariables false
set_option linter.unusedSimpArgs false
theorem blk_set {w : World} {g : Nat} {t : TypeId} {cs : Array Value} (h : w.heap[g]? = some (.cells cs t (0, 0))) (i : Nat) (u : Value) : (w.setCell ⟨g, i, none⟩ u).heap[g]? = some (.cells (cs.setIfInBounds i u) t (0, 0)) := by
  simp [World.setCell, Array.getElem?_modify, h]
theorem blk_cell {w : World} {g : Nat} {t : TypeId} {cs : Array Value} (h : w.heap[g]? = some (.cells cs t (0, 0))) (i : Nat) : w.cell? ⟨g, i, none⟩ = cs[i]? := cell_of_row w g i cs t (0, 0) h
theorem blk_free {w : World} {g : Nat} {t : TypeId} {cs : Array Value} (h : w.heap[g]? = some (.cells cs t (0, 0))) (i : Nat) : w.frozen? ⟨g, i, none⟩ = false := by
  unfold World.frozen?; rw [h]; simp
def RdB (w : World) (A : Option Addr) (n : Nat) (g : Nat) : Prop := n = 0 ∨ ∃ b off, A = some ⟨b, off, none⟩ ∧ b ≠ g ∧ b < w.heap.size ∧ ∀ j, j < n → ∃ u : Nat, u < 256 ∧ w.cell? ⟨b, off + j, none⟩ = some (.int .u8 (u : Int))
def CurAt (w : World) (g : Nat) (A : Option Addr) (n c : Nat) : Prop := ∃ (i : Nat) (h : Int), i ≤ n ∧ w.heap[g]? = some (.cells #[.slice A n c, .int .i64 (i : Int), .int .i64 h] 163 (0, 0)) ∧ RdB w A n g
theorem and255 (a : Int) : 0 ≤ bits BinOp.and IntKind.i64 a 255 ∧ bits BinOp.and IntKind.i64 a 255 ≤ 255 := by
  have h : bits BinOp.and IntKind.i64 a 255 = IntKind.i64.wrap (((BitVec.ofInt 64 a &&& BitVec.ofInt 64 255).toNat : Nat) : Int) := rfl
  have h2 : (BitVec.ofInt 64 a &&& BitVec.ofInt 64 255).toNat ≤ 255 := by
    rw [BitVec.toNat_and]
    exact Nat.le_trans Nat.and_le_right (by decide)
  rw [h, IntKind.wrap_i64]
  omega
def BytePost (g : Nat) (A : Option Addr) (n c : Nat) (w : World) (e : Ending) (w' : World) : Prop := ∃ x : Int, 0 ≤ x ∧ x ≤ 255 ∧ e = .returned (.int .i64 x) ∧ CurAt w' g A n c ∧ w.grownBy w' (some g)
theorem byte_any (g : Nat) (A : Option Addr) (n c : Nat) (w : World) (hn : n ≤ 1048576) (hc : CurAt w g A n c) :
    Calls Tryz.prog 126 #[.pointer (some ⟨g, 0, none⟩)] w (BytePost g A n c w) := by
  obtain ⟨i, h, hi, hb, hr⟩ := hc
  have c2 : w.cell? ⟨g, 2, none⟩ = some (.int .i64 h) := by rw [blk_cell hb]; rfl
  have f2 := blk_free hb 2
  go_enter Tryz.func126, Tryz.ntmps126
  go_wp2_with fail
  generalize wrap64 (wrap64 (h * 6364136223846793005) + 1442695040888963407) = H
  have hb1 := blk_set hb 2 (.int .i64 H)
  have hg1 : w.grownBy (w.setCell ⟨g, 2, none⟩ (.int .i64 H)) (some g) := grown_setCell (grown_refl _ _) 2 _
  have hr1 : RdB (w.setCell ⟨g, 2, none⟩ (.int .i64 H)) A n g := by
    rcases hr with h0 | ⟨b, off, ha, hbg, hlt, hcs⟩
    · exact .inl h0
    · refine .inr ⟨b, off, ha, hbg, by simpa using hlt, fun j hj => ?_⟩
      obtain ⟨u, hu, hcu⟩ := hcs j hj
      exact ⟨u, hu, by rw [World.cell?_setCell_other w ⟨g, 2, none⟩ ⟨b, off + j, none⟩ _ (by intro q; injection q with q1; exact hbg q1.symm)]; exact hcu⟩
  have hb2 : (w.setCell ⟨g, 2, none⟩ (.int .i64 H)).heap[g]? = some (.cells #[.slice A n c, .int .i64 (i : Int), .int .i64 H] 163 (0, 0)) := hb1
  clear hb1 hr c2 f2 hb
  generalize w.setCell ⟨g, 2, none⟩ (.int .i64 H) = w1 at hg1 hr1 hb2
  have c2 : w1.cell? ⟨g, 2, none⟩ = some (.int .i64 H) := by rw [blk_cell hb2]; rfl
  have c1 : w1.cell? ⟨g, 1, none⟩ = some (.int .i64 (i : Int)) := by rw [blk_cell hb2]; rfl
  have c0 : w1.cell? ⟨g, 0, none⟩ = some (.slice A n c) := by rw [blk_cell hb2]; rfl
  have f1 := blk_free hb2 1
  go_quiet (fail)
  have hX := and255 (bits BinOp.xor IntKind.i64 (H / 8589934592) (H / 35184372088832))
  generalize bits BinOp.and IntKind.i64 (bits BinOp.xor IntKind.i64 (H / 8589934592) (H / 35184372088832)) 255 = X at hX
  obtain ⟨hX0, hX1⟩ := hX
  have hb3 : (World.drewN w1 nq).heap[g]? = some (.cells #[.slice A n c, .int .i64 (i : Int), .int .i64 H] 163 (0, 0)) := hb2
  have hg3 : w.grownBy (World.drewN w1 nq) (some g) := ⟨hg1.os, hg1.tape, hg1.output, hg1.size, hg1.block⟩
  have hr3 : RdB (World.drewN w1 nq) A n g := hr1
  clear c0 c1 c2 f1 hb2 hg1 hr1
  generalize World.drewN w1 nq = w3 at hb3 hg3 hr3
  have c1 : w3.cell? ⟨g, 1, none⟩ = some (.int .i64 (i : Int)) := by rw [blk_cell hb3]; rfl
  have c0 : w3.cell? ⟨g, 0, none⟩ = some (.slice A n c) := by rw [blk_cell hb3]; rfl
  by_cases hlt : i < n
  · rcases hr3 with h0 | ⟨b, off, rfl, hbg, hblt, hcs⟩
    · omega
    obtain ⟨u, hu, hcu⟩ := hcs i hlt
    go_wp2_with fail
    go_quiet (fail)
    have hb4 : (World.drewN w3 nq).heap[g]? = some (.cells #[.slice (some ⟨b, off, none⟩) n c, .int .i64 (i : Int), .int .i64 H] 163 (0, 0)) := hb3
    have hg4 : w.grownBy (World.drewN w3 nq) (some g) := ⟨hg3.os, hg3.tape, hg3.output, hg3.size, hg3.block⟩
    have hcs4 : b < (World.drewN w3 nq).heap.size ∧ ∀ j, j < n → ∃ u : Nat, u < 256 ∧ (World.drewN w3 nq).cell? ⟨b, off + j, none⟩ = some (.int .u8 (u : Int)) := ⟨hblt, hcs⟩
    have hcu4 : (World.drewN w3 nq).cell? ⟨b, off + i, none⟩ = some (.int .u8 (u : Int)) := hcu
    clear c0 c1 hb3 hg3 hcs hcu hblt
    generalize World.drewN w3 nq = w4 at hb4 hg4 hcs4 hcu4
    have c1 : w4.cell? ⟨g, 1, none⟩ = some (.int .i64 (i : Int)) := by rw [blk_cell hb4]; rfl
    have c0 : w4.cell? ⟨g, 0, none⟩ = some (.slice (some ⟨b, off, none⟩) n c) := by rw [blk_cell hb4]; rfl
    have hi0 : (0 : Int) ≤ (i : Int) := by omega
    have hi1 : (i : Int) < (n : Int) := by omega
    go_wp2_with fail
    go_quiet (fail)
    have hY := and255 (X + (u : Int))
    generalize bits BinOp.and IntKind.i64 (X + (u : Int)) 255 = Y at hY
    obtain ⟨hY0, hY1⟩ := hY
    have hb5 : (World.drewN w4 nq).heap[g]? = some (.cells #[.slice (some ⟨b, off, none⟩) n c, .int .i64 (i : Int), .int .i64 H] 163 (0, 0)) := hb4
    have hg5 : w.grownBy (World.drewN w4 nq) (some g) := ⟨hg4.os, hg4.tape, hg4.output, hg4.size, hg4.block⟩
    have hcs5 : b < (World.drewN w4 nq).heap.size ∧ ∀ j, j < n → ∃ u : Nat, u < 256 ∧ (World.drewN w4 nq).cell? ⟨b, off + j, none⟩ = some (.int .u8 (u : Int)) := hcs4
    clear c0 c1 hb4 hg4 hcs4 hcu4
    generalize World.drewN w4 nq = w5 at hb5 hg5 hcs5
    have c1 : w5.cell? ⟨g, 1, none⟩ = some (.int .i64 (i : Int)) := by rw [blk_cell hb5]; rfl
    have f1 := blk_free hb5 1
    go_wp2_with fail
    go_ret
    refine ⟨Y, hY0, hY1, rfl, ⟨i + 1, H, by omega, ?_, .inr ⟨b, off, rfl, hbg, ?_, fun j hj => ?_⟩⟩, grown_setCell hg5 1 _⟩
    · have hs := blk_set hb5 1 (.int .i64 ((i : Int) + 1))
      have e : ((i + 1 : Nat) : Int) = (i : Int) + 1 := by omega
      rw [e]
      exact hs
    · simpa using hcs5.1
    · obtain ⟨v, hv, hcv⟩ := hcs5.2 j hj
      exact ⟨v, hv, by rw [World.cell?_setCell_other w5 ⟨g, 1, none⟩ ⟨b, off + j, none⟩ _ (by intro q; injection q with q1; exact hbg q1.symm)]; exact hcv⟩
  · go_wp2_with fail
    go_quiet (fail)
    go_wp2_with fail
    go_ret
    exact ⟨X, hX0, hX1, rfl, ⟨i, H, hi, hb3, hr3⟩, ⟨hg3.os, hg3.tape, hg3.output, hg3.size, hg3.block⟩⟩
def BelowPost (m : Int) (g : Nat) (A : Option Addr) (n c : Nat) (w : World) (e : Ending) (w' : World) : Prop := ∃ x : Int, 0 ≤ x ∧ x < m ∧ e = .returned (.int .i64 x) ∧ CurAt w' g A n c ∧ w.grownBy w' (some g)
theorem below_any (m : Int) (g : Nat) (A : Option Addr) (n c : Nat) (w : World) (hm0 : 0 < m) (hm1 : m ≤ 256) (hn : n ≤ 1048576) (hc : CurAt w g A n c) :
    Calls Tryz.prog 127 #[.pointer (some ⟨g, 0, none⟩), .int .i64 m] w (BelowPost m g A n c w) := by
  have H := Lib.hid (byte_any g A n c w hn hc)
  clear hc
  go_enter Tryz.func127, Tryz.ntmps127
  go_wp2_with fail
  refine (Hid.out H).mono ?_
  rintro e w1 ⟨x, hx0, hx1, rfl, hc1, hg1⟩
  have hmod0 : 0 ≤ x % m := Int.emod_nonneg _ (by omega)
  have hmod1 : x % m < m := Int.emod_lt_of_pos _ hm0
  go_wp2_with fail
  go_ret
  exact ⟨_, hmod0, hmod1, rfl, hc1, hg1⟩
theorem new_cur {w : World} {A : Option Addr} {n : Nat} (c : Nat) (h : Int) (hA : RdB w A n w.heap.size) : CurAt (w.alloc (.cells #[.slice A n c, .int .i64 0, .int .i64 h] 163)) w.heap.size A n c := by
  refine ⟨0, h, Nat.zero_le _, heap_alloc_new w _, ?_⟩
  rcases hA with h0 | ⟨b, off, ha, hbg, hblt, hcs⟩
  · exact .inl h0
  · refine .inr ⟨b, off, ha, hbg, by simp; omega, fun j hj => ?_⟩
    obtain ⟨u, hu, hcu⟩ := hcs j hj
    exact ⟨u, hu, by rw [World.cell?_alloc_lt w _ ⟨b, off + j, none⟩ hblt]; exact hcu⟩
theorem new_any (A : Option Addr) (n c : Nat) (w : World) (hn : n ≤ 1048576) (hA : RdB w A n w.heap.size) :
    Calls Tryz.prog 125 #[.slice A n c] w fun e w' => e = .returned (.pointer (some ⟨w.heap.size, 0, none⟩)) ∧ CurAt w' w.heap.size A n c ∧ Below w.heap.size w w' ∧ w.heap.size < w'.heap.size := by
  go_enter Tryz.func125, Tryz.ntmps125
  go_wp2_with fail
  go_loop [3, 4] (fun q i => ∃ (k : Nat) (h : Int), k ≤ n ∧ i = .int .i64 (k : Int) ∧ q = .int .i64 h) (fun _ i => n - (intOf i).toNat)
  case atStart => exact ⟨0, _, Nat.zero_le _, rfl, rfl⟩
  case round =>
    obtain ⟨k, h, hk, rfl, rfl⟩ := hrel
    by_cases hlt : k < n
    · by_cases h4 : (k : Int) < 4000
      · rcases hA with h0 | ⟨b, off, rfl, hbg, hblt, hcs⟩
        · omega
        obtain ⟨u, hu, hcu⟩ := hcs k hlt
        have hi0 : (0 : Int) ≤ (k : Int) := by omega
        have hi1 : (k : Int) < (n : Int) := by omega
        go_wp2_with fail
        go_round
        case rel => exact ⟨k + 1, _, by omega, by go_num, rfl⟩
        case measure => simp [intOf]; omega
      · go_wp2_with fail
        go_ret
        exact ⟨rfl, new_cur c h hA, (Below.refl _ _).alloc (Nat.le_refl _) _, by simp⟩
    · obtain rfl : k = n := by omega
      go_wp2_with fail
      go_ret
      exact ⟨rfl, new_cur c h hA, (Below.refl _ _).alloc (Nat.le_refl _) _, by simp⟩
theorem below_own {w w1 w2 : World} {g : Nat} (hb : Below w.heap.size w w1) (hg : w1.grownBy w2 (some g)) (h : w.heap.size ≤ g) : Below w.heap.size w w2 :=
  hb.trans (below_of_grown hg hb.size (fun k hk => by injection hk with e; omega))
end Go.Proofs.YtppdholccpgcpaaGreat
