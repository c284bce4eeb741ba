/-
  The law's drawn fractions: 'MakeRat'.
-/
import Derived.Test.YtkmfbanlkglkmabGreatDoorMkNat
import Derived.Test.YtkmfbanlkglkmabGreatDoorDkH
namespace Go.Proofs.YtkmfbanlkglkmabGreatDoor
open Go.ChangeShapes Go.WideShapes Go.ChangeAt Go.RowKit
open Go.ChangeMaps (open_string shut_string)
set_option linter.unusedVariables false
set_option linter.unusedSimpArgs false
set_option maxRecDepth 4000

/-- Five small numbers at block b. -/
def FiveS (w : World) (b : Nat) : Prop := b < w.heap.size ∧ ∀ j, j < 5 → ∃ x : Int, 1 ≤ x ∧ x ≤ 3 ∧ w.cell? ⟨b, j, none⟩ = some (.int .i64 x)
def SmallPost (g : Nat) (A : Option Addr) (n c : Nat) (w : World) (e : Ending) (w' : World) : Prop := ∃ x : Int, 1 ≤ x ∧ x ≤ 3 ∧ e = .returned (.int .i64 x) ∧ CurAt w' g A n c ∧ w.grownBy w' (some g)
set_option maxHeartbeats 400000 in
theorem pick_five (g b : Nat) (A : Option Addr) (n c d : Nat) (w : World) (hn : n ≤ 1048576) (hc : CurAt w g A n c) (h5 : FiveS w b) (hne : b ≠ g) :
    Calls Tryz.prog 101 #[.pointer (some ⟨g, 0, none⟩), .slice (some ⟨b, 0, none⟩) 5 d] w (SmallPost g A n c w) := by
  have H := Lib.hid (below_any 5 g A n c w (by omega) (by omega) hn hc)
  have H5 := Lib.hid h5
  clear hc h5
  go_enter Tryz.func101, Tryz.ntmps101
  go_wp2_with fail
  refine (Hid.out H).mono ?_
  rintro e w1 ⟨x, hx0, hx1, rfl, hc1, hg1⟩
  obtain ⟨k, rfl⟩ := Int.eq_ofNat_of_zero_le hx0
  obtain ⟨s, hs0, hs1, hcs⟩ := H5.out.2 k (by omega)
  have hcs1 : w1.cell? ⟨b, k, none⟩ = some (.int .i64 s) := by
    rw [World.cell?_of_block (w := w) (a := ⟨b, k, none⟩) (hg1.block b H5.out.1 (fun e => hne (by injection e)))]; exact hcs
  clear hcs H
  go_wp2_with fail
  go_ret
  exact ⟨s, hs0, hs1, rfl, hc1, hg1⟩
/-- A small fraction. -/
def Few (r : Option Rat) : Prop := ∃ x y : Int, -10 ≤ x ∧ x ≤ 10 ∧ 1 ≤ y ∧ y ≤ 3 ∧ r = ofQ x y
def FewPost (B : Nat) (e : Ending) (w' : World) : Prop := ∃ (r : Option Rat) (A : Option Addr) (c : Nat) (D : Option Addr) (d : Nat), Few r ∧ e = .returned (.agg #[.bool (qn r), .slice A (ql r).length c, .slice D (qd r).length d]) ∧ OwnS B w' A (vi (ql r)) ∧ OwnS B w' D (vi (qd r))
theorem rblk_grown {w w' : World} {b g : Nat} {o : Obj} (h : w.heap[b]? = some o) (hg : w.grownBy w' (some g)) (hne : b ≠ g) : w'.heap[b]? = some o :=
  (hg.block b (rblk_lt h) (fun e => hne (by injection e))).trans h
set_option maxHeartbeats 1000000 in
theorem few_any (g : Nat) (A : Option Addr) (n c : Nat) (w : World) (hn : n ≤ 1048576) (hc : CurAt w g A n c) :
    Calls Tryz.prog 51 #[.pointer (some ⟨g, 0, none⟩)] w fun e w' => FewPost w.heap.size e w' ∧ w.grownBy w' (some g) := by
  have hgw := hc.lt
  go_enter Tryz.func51, Tryz.ntmps51
  go_wp2_with fail
  have P_o := heap_alloc_new w (.cells #[.bool false, .slice none 0 0, .slice none 0 0] 33)
  have kg : w.grownBy (w.alloc (.cells #[.bool false, .slice none 0 0, .slice none 0 0] 33)) (some g) := grownB (grown_refl _ _) (ba1 w _)
  have kc := hc.alloc (.cells #[.bool false, .slice none 0 0, .slice none 0 0] 33)
  have hne : w.heap.size ≠ g := by omega
  generalize w.alloc (.cells #[.bool false, .slice none 0 0, .slice none 0 0] 33) = W1 at P_o kg kc ⊢
  refine (below_any 21 g A n c _ (by omega) (by omega) hn kc).mono ?_
  rintro e w2 ⟨x, hx0, hx1, rfl, hc2, hg2⟩
  replace P_o := rblk_grown P_o hg2 hne
  replace kg := grown2 kg hg2
  clear hc kc hg2
  have hz2 : w.heap.size ≤ w2.heap.size := kg.size
  have P_l := heap_alloc_new w2 (.cells #[.int .i64 1, .int .i64 1, .int .i64 1, .int .i64 2, .int .i64 3] 3)
  have kc := hc2.alloc (.cells #[.int .i64 1, .int .i64 1, .int .i64 1, .int .i64 2, .int .i64 3] 3)
  have h5 : FiveS (w2.alloc (.cells #[.int .i64 1, .int .i64 1, .int .i64 1, .int .i64 2, .int .i64 3] 3)) w2.heap.size := ⟨rblk_lt P_l, fun j hj => by
    match j, hj with
    | 0, _ => exact ⟨1, by omega, by omega, rblk_cell P_l 0⟩
    | 1, _ => exact ⟨1, by omega, by omega, rblk_cell P_l 1⟩
    | 2, _ => exact ⟨1, by omega, by omega, rblk_cell P_l 2⟩
    | 3, _ => exact ⟨2, by omega, by omega, rblk_cell P_l 3⟩
    | 4, _ => exact ⟨3, by omega, by omega, rblk_cell P_l 4⟩⟩
  replace P_o := rblk_below P_o (ba1 w2 (.cells #[.int .i64 1, .int .i64 1, .int .i64 1, .int .i64 2, .int .i64 3] 3))
  replace kg := grownB kg ((ba1 w2 (.cells #[.int .i64 1, .int .i64 1, .int .i64 1, .int .i64 2, .int .i64 3] 3)).mono hz2)
  clear P_l hc2
  go_wp2_with fail
  generalize w2.alloc (.cells #[.int .i64 1, .int .i64 1, .int .i64 1, .int .i64 2, .int .i64 3] 3) = W2 at P_o kg kc h5 ⊢
  refine (pick_five g _ A n c _ _ hn kc h5 (by omega)).mono ?_
  rintro e w3 ⟨s, hs0, hs1, rfl, hc3, hg3⟩
  replace P_o := rblk_grown P_o hg3 hne
  replace kg := grown2 kg hg3
  clear kc h5 hg3
  have HR := Lib.hid (fun W => spec_rof (x - 10) s W ⟨by omega, by omega⟩ ⟨by omega, by omega⟩)
  have HF : Hid (Few (ofQ (x - 10) s)) := Lib.hid ⟨x - 10, s, by omega, by omega, by omega, by omega, rfl⟩
  unfold MadeR at HR
  go_wp2_with fail
  generalize ofQ (x - 10) s = r at HR HF ⊢
  have hz3 : w.heap.size ≤ w3.heap.size := kg.size
  have hltr := rblk_lt P_o
  refine (HR.out _).mono ?_
  rintro e w4 ⟨A3, c3, D3, d3, rfl, hcc, hdd, o3, o4, hap, hb⟩
  replace P_o := rblk_below P_o hb
  replace kg := grownB kg (hb.mono hz3)
  clear hb
  have c0 := rblk_cell P_o 0
  have c1 := rblk_cell P_o 1
  have c2 := rblk_cell P_o 2
  have f0 := rblk_free P_o 0
  have f1 := rblk_free P_o 1
  have f2 := rblk_free P_o 2
  go_wp2
  exact bodyPost_ret (v := .agg #[.bool (qn r), .slice A3 (ql r).length c3, .slice D3 (qd r).length d3]) (by simp [results, Tryz.results51, go_sem, c0, c1, c2]) rfl ⟨⟨r, A3, c3, D3, d3, HF.out, rfl, (own_put3 o3 hltr _ _ _).more hz3, (own_put3 o4 hltr _ _ _).more hz3⟩, grownB kg (below_put3 (Below.refl _ _) (Nat.le_refl _) _ _ _)⟩

def MakePost (w : World) (e : Ending) (w' : World) : Prop := FewPost w.heap.size e w' ∧ Below w.heap.size w w'
set_option maxHeartbeats 1000000 in
theorem makeRat_any (k : Nat) (y : Int) (hy : y = (k : Int)) (A : Option Addr) (n c : Nat) (w : World) (hk : k ≤ 10) (hn : n ≤ 1048576) (hA : RdB w A n w.heap.size) :
    Calls Tryz.prog 16 #[.slice A n c, .int .i64 y] w (MakePost w) := by
  subst hy
  have H := Lib.hid (fun x W hx (h : RdB W A n W.heap.size) => new31_n (3 * k) x A n c W hx (by omega) hn h)
  have HA : Hid (∀ o, RdB (w.alloc o) A n (w.alloc o).heap.size) := Lib.hid (fun o => by
    rcases hA with h0 | ⟨b, off, ha, hbg, hblt, hcs⟩
    · exact .inl h0
    · refine .inr ⟨b, off, ha, by simp; omega, by simp; omega, fun j hj => ?_⟩
      obtain ⟨u, hu, hcu⟩ := hcs j hj
      exact ⟨u, hu, by rw [World.cell?_alloc_lt w _ ⟨b, off + j, none⟩ hblt]; exact hcu⟩)
  clear hA
  go_enter Tryz.func16, Tryz.ntmps16
  go_wp2_with fail
  have P_o := heap_alloc_new w (.cells #[.bool false, .slice none 0 0, .slice none 0 0] 33)
  have kb := ba1 w (.cells #[.bool false, .slice none 0 0, .slice none 0 0] 33)
  have ks := sz1 w (.cells #[.bool false, .slice none 0 0, .slice none 0 0] 33)
  have ka := HA.out (.cells #[.bool false, .slice none 0 0, .slice none 0 0] 33)
  generalize w.alloc (.cells #[.bool false, .slice none 0 0, .slice none 0 0] 33) = W1 at P_o kb ks ka ⊢
  have hne : w.heap.size ≠ W1.heap.size := by omega
  have hz1 : w.heap.size ≤ W1.heap.size := kb.size
  have hlt1 : w.heap.size < W1.heap.size := by omega
  clear ks
  refine (H.out _ _ (by omega) ka).mono ?_
  rintro e w1 ⟨rfl, hc1, hb1⟩
  replace P_o := rblk_below P_o hb1
  replace kb := bt kb hb1
  have hz2 : W1.heap.size ≤ w1.heap.size := hb1.size
  go_wp2_with fail
  refine (few_any _ A n c _ hn hc1).mono ?_
  rintro e w2 ⟨⟨r, A3, c3, D3, d3, hF, rfl, o3, o4⟩, hg2⟩
  replace P_o := rblk_grown P_o hg2 hne
  have hfin := below_own (w := w) kb hg2 (by omega)
  have HF := Lib.hid hF
  have hltr : w.heap.size < w1.heap.size := by omega
  clear hF hg2 hc1 hb1
  have c0 := rblk_cell P_o 0
  have c1 := rblk_cell P_o 1
  have c2 := rblk_cell P_o 2
  have f0 := rblk_free P_o 0
  have f1 := rblk_free P_o 1
  have f2 := rblk_free P_o 2
  go_wp2
  exact bodyPost_ret (v := .agg #[.bool (qn r), .slice A3 (ql r).length c3, .slice D3 (qd r).length d3]) (by simp [results, Tryz.results16, go_sem, c0, c1, c2]) rfl ⟨⟨r, A3, c3, D3, d3, HF.out, rfl, (own_put3 o3 hltr _ _ _).more (by omega), (own_put3 o4 hltr _ _ _).more (by omega)⟩, below_put3 hfin (Nat.le_refl _) _ _ _⟩
end Go.Proofs.YtkmfbanlkglkmabGreatDoor
