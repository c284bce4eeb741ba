/-
  The laws' drawn points: 'MakePoint'.
-/
import Derived.Test.YtppdholccpgcpaaGreatWg
import Derived.Test.YtppdholccpgcpaaGreatLawP
import Derived.Test.YtppdholccpgcpaaGreatMkPt
namespace Go.Proofs.YtppdholccpgcpaaGreat
open Go.ChangeShapes Go.WideShapes Go.ChangeAt Go.RowKit
set_option linter.unusedVariables false
set_option linter.unusedSimpArgs false
set_option maxRecDepth 4000
theorem RdB.belowB {w w' : World} {A : Option Addr} {n : Nat} (h : RdB w A n w.heap.size) (hb : Below w.heap.size w w') : RdB w' A n w'.heap.size := by
  rcases h with h0 | ⟨b, off, ha, hbg, hblt, hcs⟩
  · exact .inl h0
  · have := hb.size
    refine .inr ⟨b, off, ha, by omega, by omega, fun j hj => ?_⟩
    obtain ⟨u, hu, hcu⟩ := hcs j hj
    exact ⟨u, hu, by rw [hb.cell (p := ⟨b, off + j, none⟩) hblt]; exact hcu⟩
set_option maxHeartbeats 1000000 in
theorem makePt_any (k : Nat) (y : Int) (hy : y = (k : Int)) (A : Option Addr) (n c : Nat) (w : World) (hk : k ≤ 10) (hn : n ≤ 1048576) (hA : RdB w A n w.heap.size) :
    Calls Tryz.prog 12 #[.slice A n c, .int .i64 y] w fun e w' => PtPost w.heap.size e w' ∧ Below w.heap.size w w' := by
  subst hy
  have H := Lib.hid (fun x W hx (h : RdB W A n W.heap.size) => new31_n (4 * k) x A n c W hx (by omega) hn h)
  have HA : Hid (∀ o, RdB (w.alloc o) A n (w.alloc o).heap.size) := Lib.hid (fun o => by
    rcases hA with h0 | ⟨b, off, ha, hbg, hblt, hcs⟩
    · exact .inl h0
    · refine .inr ⟨b, off, ha, by simp; omega, by simp; omega, fun j hj => ?_⟩
      obtain ⟨u, hu, hcu⟩ := hcs j hj
      exact ⟨u, hu, by rw [World.cell?_alloc_lt w _ ⟨b, off + j, none⟩ hblt]; exact hcu⟩)
  clear hA
  go_enter Tryz.func12, Tryz.ntmps12
  go_wp2_with fail
  have P_o := heap_alloc_new w (.cells z6 31)
  have kb := ba1 w (.cells z6 31)
  have ks := sz1 w (.cells z6 31)
  have ka := HA.out (.cells z6 31)
  generalize w.alloc (.cells z6 31) = W1 at P_o kb ks ka ⊢
  have hne : w.heap.size ≠ W1.heap.size := by omega
  have hz1 : w.heap.size ≤ W1.heap.size := kb.size
  have hlt1 : w.heap.size < W1.heap.size := by omega
  clear ks
  refine (H.out _ _ (by omega) ka).mono ?_
  rintro e w1 ⟨rfl, hc1, hb1⟩
  replace P_o := rblk_below P_o hb1
  replace kb := bt kb hb1
  have hz2 : W1.heap.size ≤ w1.heap.size := hb1.size
  go_wp2_with fail
  refine (point_any _ A n c _ hn hc1).mono ?_
  rintro e w2 ⟨⟨X, Y, a, b, hd, rfl, hcap, oP⟩, hc2, hg2⟩
  replace P_o := rblk_grown P_o hg2 hne
  have hfin := below_own (w := w) kb hg2 (by omega)
  have HD := Lib.hid (And.intro hd hcap)
  have hltr : w.heap.size < w1.heap.size := by omega
  clear hd hcap hg2 hc1 hb1 hc2
  have c0 := rblk_cell P_o 0
  have c1 := rblk_cell P_o 1
  have c2 := rblk_cell P_o 2
  have c3 := rblk_cell P_o 3
  have c4 := rblk_cell P_o 4
  have c5 := rblk_cell P_o 5
  have f0 := rblk_free P_o 0
  have f1 := rblk_free P_o 1
  have f2 := rblk_free P_o 2
  have f3 := rblk_free P_o 3
  have f4 := rblk_free P_o 4
  have f5 := rblk_free P_o 5
  go_wp2
  exact bodyPost_ret (v := .agg (r6 X Y a b)) (by simp [results, Tryz.results12, go_sem, c0, c1, c2, c3, c4, c5]) rfl ⟨⟨X, Y, a, b, HD.out.1, rfl, HD.out.2, owns_end6 oP (.inl hltr) (Nat.le_of_lt hltr) (Nat.le_refl _) _ _ _ _ _ _⟩, below_put6 hfin (Nat.le_refl _) _ _ _ _ _ _⟩
end Go.Proofs.YtppdholccpgcpaaGreat
