/-
  What the models' drawing functions leave of natural numbers: 'l31New', 'l01Below', 'l01Pick', 'l02Nat', 'MakeNat'. Only bounds are said of the values drawn.
-/
import Derived.Test.YtppdholccpgcpaaGreatDrawP
import Derived.Test.YtppdholccpgcpaaGreatPkA
namespace Go.Proofs.YtppdholccpgcpaaGreat
open Go.ChangeShapes Go.WideShapes Go.ChangeAt Go.RowKit
set_option linter.unusedVariables false
set_option linter.unusedSimpArgs false
set_option maxRecDepth 4000
theorem CurAt.alloc {w : World} {g : Nat} {A : Option Addr} {n c : Nat} (h : CurAt w g A n c) (o : Obj) : CurAt (w.alloc o) g A n c := by
  obtain ⟨i, hh, hi, hb, hr⟩ := h
  have hg : g < w.heap.size := (Array.getElem?_eq_some_iff.1 hb).1
  refine ⟨i, hh, hi, by rw [Below.heap_alloc w o g hg]; exact hb, ?_⟩
  rcases hr with h0 | ⟨b, off, ha, hbg, hblt, hcs⟩
  · exact .inl h0
  · refine .inr ⟨b, off, ha, hbg, by simp; omega, fun j hj => ?_⟩
    obtain ⟨u, hu, hcu⟩ := hcs j hj
    exact ⟨u, hu, by rw [World.cell?_alloc_lt w _ ⟨b, off + j, none⟩ hblt]; exact hcu⟩
def Low (A : Option Addr) (n B : Nat) : Prop := n = 0 ∨ ∃ b off, A = some ⟨b, off, none⟩ ∧ b < B
theorem CurAt.low {w : World} {g : Nat} {A : Option Addr} {n c : Nat} (h : CurAt w g A n c) : Low A n w.heap.size := by
  obtain ⟨i, hh, hi, hb, hr⟩ := h
  rcases hr with h0 | ⟨b, off, ha, hbg, hblt, hcs⟩
  · exact .inl h0
  · exact .inr ⟨b, off, ha, hblt⟩
theorem CurAt.lt {w : World} {g : Nat} {A : Option Addr} {n c : Nat} (h : CurAt w g A n c) : g < w.heap.size := by
  obtain ⟨i, hh, hi, hb, hr⟩ := h
  exact (Array.getElem?_eq_some_iff.1 hb).1
theorem CurAt.belowB {w w' : World} {g B : Nat} {A : Option Addr} {n c : Nat} (h : CurAt w g A n c) (hg : g < B) (hA : Low A n B) (hb : Below B w w') : CurAt w' g A n c := by
  obtain ⟨i, hh, hi, hbk, hr⟩ := h
  refine ⟨i, hh, hi, by rw [hb.block g hg]; exact hbk, ?_⟩
  rcases hr with h0 | ⟨b, off, ha, hbg, hblt, hcs⟩
  · exact .inl h0
  · rcases hA with h0 | ⟨b', off', ha', hlt⟩
    · exact .inl h0
    · rw [ha] at ha'
      injection ha' with ha'
      injection ha' with e1 e2
      subst e1
      refine .inr ⟨b, off, ha, hbg, Nat.lt_of_lt_of_le hblt hb.size, fun j hj => ?_⟩
      obtain ⟨u, hu, hcu⟩ := hcs j hj
      exact ⟨u, hu, by rw [hb.cell (p := ⟨b, off + j, none⟩) hlt]; exact hcu⟩
theorem grown2 {w w1 w2 : World} {row : Option Nat} (h : w.grownBy w1 row) (k : w1.grownBy w2 row) : w.grownBy w2 row :=
  ⟨k.os.trans h.os, k.tape.trans h.tape, k.output.trans h.output, Nat.le_trans h.size k.size, fun i hi hne => (k.block i (Nat.lt_of_lt_of_le hi h.size) hne).trans (h.block i hi hne)⟩
theorem grownB {w w1 w2 : World} {row : Option Nat} (h : w.grownBy w1 row) (k : Below w.heap.size w1 w2) : w.grownBy w2 row :=
  ⟨k.os.trans h.os, k.tape.trans h.tape, k.output.trans h.output, Nat.le_trans h.size k.size, fun i hi hne => (k.block i hi).trans (h.block i hi hne)⟩
set_option maxHeartbeats 400000 in
theorem new31_n (m : Nat) (x : Int) (A : Option Addr) (n c : Nat) (w : World) (hx : x = (m : Int)) (hm : m ≤ 1000) (hn : n ≤ 1048576) (hA : RdB w A n w.heap.size) :
    Calls Tryz.prog 60 #[.slice A n c, .int .i64 x] w fun e w' => e = .returned (.pointer (some ⟨w.heap.size, 0, none⟩)) ∧ CurAt w' w.heap.size A n c ∧ Below w.heap.size w w' := by
  subst hx
  have H := Lib.hid (new_any A n c w hn hA)
  clear hA
  go_enter Tryz.func60, Tryz.ntmps60
  go_wp2_with fail
  refine (Hid.out H).mono ?_
  rintro e w1 ⟨rfl, hc1, hb1, hs1⟩
  go_wp2_with fail
  go_loopw [6] (fun i w' => ∃ k : Nat, k ≤ m ∧ i = .int .i64 (k : Int) ∧ CurAt w' w.heap.size A n c ∧ Below w.heap.size w w') (fun i _ => m - (intOf i).toNat)
  case atStart => exact ⟨0, by omega, rfl, hc1, hb1⟩
  case round =>
    clear hc1 hb1
    obtain ⟨k, hk, rfl, hc, hb⟩ := hrel
    by_cases hlt : k < m
    · go_wp2_with fail
      refine (byte_any _ A n c _ hn hc).mono ?_
      rintro e w2 ⟨x, hx0, hx1, rfl, hc2, hg2⟩
      go_wp2_with fail
      go_roundw
      case rel => exact ⟨k + 1, by omega, by go_num, hc2, below_own hb hg2 (Nat.le_refl _)⟩
      case measure => simp [intOf]; omega
    · obtain rfl : k = m := by omega
      go_wp2_with fail
      go_ret
      exact ⟨rfl, hc, hb⟩
end Go.Proofs.YtppdholccpgcpaaGreat
