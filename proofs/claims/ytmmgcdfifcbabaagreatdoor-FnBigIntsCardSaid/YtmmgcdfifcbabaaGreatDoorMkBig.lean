/-
  The law's drawn big integers: 'MakeBigInt'.
-/
import Derived.Test.YtmmgcdfifcbabaaGreatDoorMkNat
import Derived.Test.YtmmgcdfifcbabaaGreatDoorBigV
namespace Go.Proofs.YtmmgcdfifcbabaaGreatDoor
open Go.ChangeShapes Go.WideShapes Go.ChangeAt Go.RowKit
open Go.ChangeMaps (open_string shut_string)
set_option linter.unusedVariables false
set_option linter.unusedSimpArgs false
set_option maxRecDepth 4000

set_option maxHeartbeats 400000 in
theorem below_wide (m : Int) (g : Nat) (A : Option Addr) (n c : Nat) (w : World) (hm0 : 256 < m) (hm1 : m ≤ 1000000000) (hn : n ≤ 1048576) (hc : CurAt w g A n c) :
    Calls Tryz.prog 27 #[.pointer (some ⟨g, 0, none⟩), .int .i64 m] w (BelowPost m g A n c w) := by
  go_enter Tryz.func27, Tryz.ntmps27
  go_wp2_with fail
  refine (byte_any g A n c _ hn hc).mono ?_
  rintro e w1 ⟨x, hx0, hx1, rfl, hc1, hg1⟩
  go_wp2_with fail
  refine (byte_any g A n c _ hn hc1).mono ?_
  rintro e w2 ⟨y, hy0, hy1, rfl, hc2, hg2⟩
  go_wp2_with fail
  refine (byte_any g A n c _ hn hc2).mono ?_
  rintro e w3 ⟨z, hz0, hz1, rfl, hc3, hg3⟩
  go_wp2_with fail
  refine (byte_any g A n c _ hn hc3).mono ?_
  rintro e w4 ⟨u, hu0, hu1, rfl, hc4, hg4⟩
  have hmod0 : 0 ≤ (x * 16777216 + y * 65536 + z * 256 + u) % m := Int.emod_nonneg _ (by omega)
  have hmod1 : (x * 16777216 + y * 65536 + z * 256 + u) % m < m := Int.emod_lt_of_pos _ (by omega)
  have hG := grown2 (grown2 (grown2 hg1 hg2) hg3) hg4
  clear hc hc1 hc2 hc3 hg1 hg2 hg3 hg4
  go_wp2_with fail
  go_ret
  exact ⟨_, hmod0, hmod1, rfl, hc4, hG⟩

def OncePost (g : Nat) (A : Option Addr) (n c : Nat) (w : World) (e : Ending) (w' : World) : Prop := ∃ b : Bool, e = .returned (.bool b) ∧ CurAt w' g A n c ∧ w.grownBy w' (some g)
set_option maxHeartbeats 400000 in
theorem once_any (m : Int) (g : Nat) (A : Option Addr) (n c : Nat) (w : World) (hm0 : 0 < m) (hm1 : m ≤ 256) (hn : n ≤ 1048576) (hc : CurAt w g A n c) :
    Calls Tryz.prog 25 #[.pointer (some ⟨g, 0, none⟩), .int .i64 m] w (OncePost g A n c w) := by
  have H := Lib.hid (below_any m g A n c w hm0 hm1 hn hc)
  clear hc
  go_enter Tryz.func25, Tryz.ntmps25
  go_wp2_with fail
  refine (Hid.out H).mono ?_
  rintro e w1 ⟨x, hx0, hx1, rfl, hc1, hg1⟩
  go_wp2_with fail
  go_ret
  exact ⟨_, rfl, hc1, hg1⟩

theorem Two.grown {W W' : World} {r g : Nat} (h : Two W r) (hg : W.grownBy W' (some g)) (hne : r ≠ g) : Two W' r := by
  have hl := h.lt
  obtain ⟨u, v, h1, h2, h3, h4⟩ := h
  have hb : W'.heap[r]? = W.heap[r]? := hg.block r (by omega) (fun e => hne (by injection e))
  exact ⟨u, v, by rw [World.cell?_of_block (w := W) (a := ⟨r, 0, none⟩) hb]; exact h1, by rw [World.cell?_of_block (w := W) (a := ⟨r, 1, none⟩) hb]; exact h2,
    by rw [World.frozen?_of_block (w := W) (a := ⟨r, 0, none⟩) hb]; exact h3, by rw [World.frozen?_of_block (w := W) (a := ⟨r, 1, none⟩) hb]; exact h4⟩

/-- A big integer drawn, in a row of the call's own. -/
def BigPost (B : Nat) (e : Ending) (w' : World) : Prop := ∃ (z : Int) (A : Option Addr) (c : Nat), ln z.natAbs ≤ 3 ∧ e = .returned (.agg #[.bool (zn z), .slice A (zm z).length c]) ∧ OwnS B w' A (vi (zm z))
/-- The same with the parts named. -/
def ZPost (B : Nat) (p : Bool) (L : List Int) (w : World) (e : Ending) (w' : World) : Prop := ∃ A c, e = .returned (.agg #[.bool p, .slice A L.length c]) ∧ OwnS B w' A (vi L) ∧ Below w.heap.size w w'
def DrawPost (B : Nat) (g : Nat) (w : World) (e : Ending) (w' : World) : Prop := BigPost B e w' ∧ w.grownBy w' (some g)

set_option maxHeartbeats 1000000 in
theorem l03Draw_any (g : Nat) (A : Option Addr) (n c : Nat) (w : World) (hn : n ≤ 1048576) (hc : CurAt w g A n c) :
    Calls Tryz.prog 11 #[.pointer (some ⟨g, 0, none⟩), .int .i64 3] w (DrawPost w.heap.size g w) := by
  have hlow := hc.low
  have hgw := hc.lt
  go_enter Tryz.func11, Tryz.ntmps11
  go_wp2_with fail
  have kt := boxT w 25 (.bool false) (.slice none 0 0)
  have kg : w.grownBy (w.alloc (.cells #[.bool false, .slice none 0 0] 25)) (some g) := grownB (grown_refl _ _) (ba1 w _)
  have kc := hc.alloc (.cells #[.bool false, .slice none 0 0] 25)
  have ks := sz1 w (.cells #[.bool false, .slice none 0 0] 25)
  generalize w.alloc (.cells #[.bool false, .slice none 0 0] 25) = W1 at kt kg kc ks ⊢
  have hne : w.heap.size ≠ g := by omega
  refine (once_any 3 g A n c _ (by omega) (by omega) hn kc).mono ?_
  rintro e w2 ⟨b, rfl, hc2, hg2⟩
  replace kt := kt.grown hg2 hne
  replace kg := grown2 kg hg2
  clear hc kc hg2
  cases b
  · go_wp2_with fail
    refine (once_any 2 g A n c _ (by omega) (by omega) hn hc2).mono ?_
    rintro e w3 ⟨s, rfl, hc3, hg3⟩
    replace kt := kt.grown hg3 hne
    replace kg := grown2 kg hg3
    clear hc2 hg3
    go_wp2_with fail
    refine (l02Nat_any g A n c _ hn hc3).mono ?_
    rintro e w4 ⟨⟨v, A4, c4, h3, rfl, ho⟩, hg4⟩
    replace kt := kt.grown hg4 hne
    replace kg := grown2 kg hg4
    clear hc3 hg4
    have hO := (OwnS.of_own ho).rd
    have hcc : ln v ≤ c4 := by
      obtain ⟨A5, c5, hv, hcc, _, _⟩ := own_len ho
      injection hv with q1 q2 q3
      omega
    obtain ⟨z, hz⟩ : ∃ z : Int, (if s then -(v : Int) else (v : Int)) = z := ⟨_, rfl⟩
    have hzl : ln z.natAbs ≤ 3 := by
      have : z.natAbs = v := by cases s <;> simp at hz <;> omega
      rw [this]; exact h3
    have HM := Lib.hid (fun W (h : RdS W A4 (vi (nd v))) => (make_rd s v (ln v) c4 A4 W rfl (by omega) hcc h).mono fun e w' h => made_z h (by omega) hz)
    have HR := Lib.hid hO
    have HZ := Lib.hid hzl
    clear hz hzl h3 ho hO hcc
    go_wp2_with fail
    refine (HM.out _ HR.out).mono ?_
    rintro e w6 ⟨A7, c7, rfl, hc7, hO7, hbc⟩
    have hlt := kt.lt
    obtain ⟨u0, u1, t1, t2, t3, t4⟩ := kt.below hbc
    have hfin := grown_below kg hbc
    go_wp2
    exact bodyPost_ret (v := .agg #[.bool (zn z), .slice A7 (zm z).length c7]) (by simp [results, Tryz.results11, go_sem, t1, t2]) rfl ⟨⟨z, A7, c7, HZ.out, rfl, ((hO7.put (by omega) _).put (by omega) _).more (by omega)⟩, grownB hfin (below_put (below_put (Below.refl _ _) (by omega) _) (by omega) _)⟩
  · go_wp2_with fail
    refine (below_wide 2001 g A n c _ (by omega) (by omega) hn hc2).mono ?_
    rintro e w3 ⟨x, hx0, hx1, rfl, hc3, hg3⟩
    replace kt := kt.grown hg3 hne
    replace kg := grown2 kg hg3
    clear hc2 hg3
    have hzl : ln (x - 1000).natAbs ≤ 3 := ln_word (by omega)
    have HB := Lib.hid (fun W => spec_bof (x - 1000) W (by omega) (by omega))
    have HZ := Lib.hid hzl
    clear hzl
    go_wp2_with fail
    refine (HB.out _).mono ?_
    generalize x - 1000 = z at HZ ⊢
    rintro e w6 ⟨A7, c7, rfl, hc7, hO7, hbc⟩
    have hlt := kt.lt
    obtain ⟨u0, u1, t1, t2, t3, t4⟩ := kt.below hbc
    have hfin := grown_below kg hbc
    go_wp2
    exact bodyPost_ret (v := .agg #[.bool (zn z), .slice A7 (zm z).length c7]) (by simp [results, Tryz.results11, go_sem, t1, t2]) rfl ⟨⟨z, A7, c7, HZ.out, rfl, ((hO7.put (by omega) _).put (by omega) _).more (by omega)⟩, grownB hfin (below_put (below_put (Below.refl _ _) (by omega) _) (by omega) _)⟩

def MadePost (w : World) (e : Ending) (w' : World) : Prop := BigPost w.heap.size e w' ∧ Below w.heap.size w w'
set_option maxHeartbeats 1000000 in
theorem makeBig_any (k : Nat) (y : Int) (hy : y = (k : Int)) (A : Option Addr) (n c : Nat) (w : World) (hk : k ≤ 10) (hn : n ≤ 1048576) (hA : RdB w A n w.heap.size) :
    Calls Tryz.prog 4 #[.slice A n c, .int .i64 y] w (MadePost w) := by
  subst hy
  have H := Lib.hid (fun x W hx (h : RdB W A n W.heap.size) => new31_n (4 * k) x A n c W hx (by omega) hn h)
  have HA : Hid (∀ o, RdB (w.alloc o) A n (w.alloc o).heap.size) := Lib.hid (fun o => by
    rcases hA with h0 | ⟨b, off, ha, hbg, hblt, hcs⟩
    · exact .inl h0
    · refine .inr ⟨b, off, ha, by simp; omega, by simp; omega, fun j hj => ?_⟩
      obtain ⟨u, hu, hcu⟩ := hcs j hj
      exact ⟨u, hu, by rw [World.cell?_alloc_lt w _ ⟨b, off + j, none⟩ hblt]; exact hcu⟩)
  clear hA
  go_enter Tryz.func4, Tryz.ntmps4
  go_wp2_with fail
  have kt := boxT w 25 (.bool false) (.slice none 0 0)
  have kb := ba1 w (.cells #[.bool false, .slice none 0 0] 25)
  have ks := sz1 w (.cells #[.bool false, .slice none 0 0] 25)
  have ka := HA.out (.cells #[.bool false, .slice none 0 0] 25)
  generalize w.alloc (.cells #[.bool false, .slice none 0 0] 25) = W1 at kt kb ks ka ⊢
  have hne : w.heap.size ≠ W1.heap.size := by omega
  clear ks
  refine (H.out _ _ (by omega) ka).mono ?_
  rintro e w1 ⟨rfl, hc1, hb1⟩
  replace kt := kt.below hb1
  have hsz0 := kb.size
  replace kb := bt kb hb1
  go_wp2_with fail
  refine (l03Draw_any _ A n c _ hn hc1).mono ?_
  rintro e w2 ⟨⟨z, A7, c7, h3, rfl, hO7⟩, hg2⟩
  have hlt := kt.lt
  have hsz := kb.size
  have hsz1 := hb1.size
  obtain ⟨u0, u1, t1, t2, t3, t4⟩ := kt.grown hg2 hne
  have hfin := below_own (w := w) kb hg2 (by omega)
  have HZ := Lib.hid h3
  clear h3
  go_wp2
  exact bodyPost_ret (v := .agg #[.bool (zn z), .slice A7 (zm z).length c7]) (by simp [results, Tryz.results4, go_sem, t1, t2]) rfl ⟨⟨z, A7, c7, HZ.out, rfl, ((hO7.put (by omega) _).put (by omega) _).more (by omega)⟩, below_put (below_put hfin (by omega) _) (by omega) _⟩
end Go.Proofs.YtmmgcdfifcbabaaGreatDoor
