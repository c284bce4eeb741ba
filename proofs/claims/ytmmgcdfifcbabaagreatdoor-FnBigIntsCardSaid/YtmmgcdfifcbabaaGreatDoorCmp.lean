/-
  'NatCmp', of the model and of the program.
-/
import Derived.Test.YtmmgcdfifcbabaaGreatDoorOk
import Derived.RegionCalls
import Derived.Deep.RegionWith
import Derived.Deep.RegionHeld3
namespace Go.Proofs.YtmmgcdfifcbabaaGreatDoor
open Go.ChangeShapes Go.WideShapes Go.ChangeAt Go.RowKit
open Go.ChangeMaps (open_string shut_string)
set_option linter.unusedVariables false
set_option linter.unusedSimpArgs false

theorem ret_int' {a b : Int} (h : a = b) : Ending.returned (.int .i64 a) = .returned (.int .i64 b) := by rw [h]
def cmpI (x y : Int) : Int := if x < y then -1 else if y < x then 1 else 0
theorem cmpI_lt {x y : Int} (h : x < y) : cmpI x y = -1 := if_pos h
theorem cmpI_gt {x y : Int} (h : y < x) : cmpI x y = 1 := by unfold cmpI; rw [if_neg (by omega), if_pos h]
theorem cmpI_eq {x y : Int} (h : x = y) : cmpI x y = 0 := by unfold cmpI; rw [if_neg (by omega), if_neg (by omega)]
theorem cmpN_lt {a b : Nat} (h : a < b) : cmpN a b = -1 := if_pos h
theorem cmpN_gt {a b : Nat} (h : b < a) : cmpN a b = 1 := by unfold cmpN; rw [if_neg (by omega), if_pos h]
theorem cmpN_eq {a b : Nat} (h : a = b) : cmpN a b = 0 := by unfold cmpN; rw [if_neg (by omega), if_neg (by omega)]
theorem cmpN_range (a b : Nat) : -1 ≤ cmpN a b ∧ cmpN a b ≤ 1 := by
  unfold cmpN
  split
  · omega
  · split <;> omega

theorem isNaN_any (x : Int) (w : World) : Calls Tryz.prog 87 #[.int .i64 x] w fun e w' => e = .returned (.bool false) ∧ w = w' := by
  have q : (x != x) = false := by simp
  go_enter Tryz.func87, Tryz.ntmps87
  go_wp2
  go_ret
  exact ⟨rfl, rfl⟩

theorem compare_any (x y : Int) (w : World) : Calls Tryz.prog 77 #[.int .i64 x, .int .i64 y] w fun e w' => e = .returned (.int .i64 (cmpI x y)) ∧ w = w' := by
  have h1 := Lib.hid (isNaN_any x w)
  have h2 := Lib.hid (isNaN_any y w)
  rcases Int.lt_trichotomy x y with h | h | h
  · have hc := Lib.hid (cmpI_lt h)
    go_enter Tryz.func77, Tryz.ntmps77
    go_wp2_with fail
    refine h1.out.mono ?_
    rintro e w1 ⟨rfl, rfl⟩
    go_wp2_with fail
    refine h2.out.mono ?_
    rintro e w1 ⟨rfl, rfl⟩
    go_wp2
    go_ret
    exact ⟨ret_int' hc.out.symm, rfl⟩
  · subst h
    have hc := Lib.hid (cmpI_eq (x := x) rfl)
    go_enter Tryz.func77, Tryz.ntmps77
    go_wp2_with fail
    refine h1.out.mono ?_
    rintro e w1 ⟨rfl, rfl⟩
    go_wp2_with fail
    refine h2.out.mono ?_
    rintro e w1 ⟨rfl, rfl⟩
    go_wp2
    go_ret
    exact ⟨ret_int' hc.out.symm, rfl⟩
  · have hc := Lib.hid (cmpI_gt h)
    go_enter Tryz.func77, Tryz.ntmps77
    go_wp2_with fail
    refine h1.out.mono ?_
    rintro e w1 ⟨rfl, rfl⟩
    go_wp2_with fail
    refine h2.out.mono ?_
    rintro e w1 ⟨rfl, rfl⟩
    go_wp2
    go_ret
    exact ⟨ret_int' hc.out.symm, rfl⟩

theorem compare_b (x y : Int) (w : World) : Calls Tryz.prog 77 #[.int .i64 x, .int .i64 y] w fun e w' => e = .returned (.int .i64 (cmpI x y)) ∧ Below w.heap.size w w' :=
  (compare_any x y w).mono fun e w' ⟨h1, h2⟩ => ⟨h1, by subst h2; exact Below.refl _ _⟩
theorem held_two {wr W w1 : World} {a b : Addr} {u v : Value} (ha : a.block < wr.heap.size) (hb0 : b.block < wr.heap.size) (h1 : W.cell? a = some u) (h2 : W.cell? b = some v) (h3 : Below wr.heap.size wr W) (hb : Below W.heap.size W w1) : w1.cell? a = some u ∧ w1.cell? b = some v ∧ Below wr.heap.size wr w1 :=
  ⟨by rw [hb.cell (p := a) (Nat.lt_of_lt_of_le ha h3.size)]; exact h1, by rw [hb.cell (p := b) (Nat.lt_of_lt_of_le hb0 h3.size)]; exact h2, h3.trans (hb.mono h3.size)⟩

set_option maxHeartbeats 800000 in
theorem impl_cmp (a b : Nat) (A D : Option Addr) (n c n' d : Nat) (w : World) (hn : ln a = n) (hn' : ln b = n') (h60 : n ≤ 1048576) (h60' : n' ≤ 1048576) (hA : RdS w A (vi (nd a))) (hD : RdS w D (vi (nd b))) :
    Calls Tryz.prog 60 #[.slice A n c, .slice D n' d] w fun e w' => e = .returned (.int .i64 (cmpN a b)) ∧ Below w.heap.size w w' := by
  by_cases hne : n = n'
  · subst hne
    have hst := cmp_start (a := a) (b := b) (by omega)
    rw [hn] at hst
    have HN := Lib.hid hn
    have HN' := Lib.hid hn'
    clear hn hn'
    go_enter Tryz.func60, Tryz.ntmps60
    go_wp2
    go_loopw [5] (fun i w' => ∃ (k : Nat) (x : Int), k ≤ n ∧ i = .int .i64 x ∧ x = (k : Int) - 1 ∧ (a : Int) / pw k = (b : Int) / pw k ∧ Below w.heap.size w w') (fun i _ => (intOf i + 1).toNat)
    case atStart => exact ⟨n, _, Nat.le_refl _, rfl, rfl, hst, Below.refl _ _⟩
    case round =>
      clear hst
      obtain ⟨k, x, hk, rfl, hx, he0, hb⟩ := hrel
      have he := Lib.hid he0
      clear he0
      rcases k with _ | j
      · obtain rfl : x = -1 := by omega
        clear hx
        have hc := Lib.hid (cmpN_eq (cmp_end he.out))
        go_wp2
        go_ret
        exact ⟨ret_int' hc.out.symm, hb⟩
      · obtain rfl : x = (j : Int) := by omega
        clear hx
        have hlt : j < n := by omega
        obtain ⟨b1, o1, rfl, hb1, e1⟩ := (hA.below hb).int (nd_get (v := a) (i := j) (by rw [HN.out]; exact hlt))
        obtain ⟨b2, o2, rfl, hb2, e2⟩ := (hD.below hb).int (nd_get (v := b) (i := j) (by rw [HN'.out]; exact hlt))
        have hi0 : (0 : Int) ≤ (j : Int) := by omega
        have hi1 : (j : Int) < (n : Int) := by omega
        by_cases hq : dgt a j = dgt b j
        · have he' := Lib.hid (cmp_eq he.out hq)
          rw [← hq] at e2
          clear hq
          generalize dgt (a : Int) j = s at e1 e2
          go_wp2
          go_quiet (fail)
          go_wp2
          go_roundw
          case rel => exact ⟨j, _, by omega, rfl, rfl, he'.out, below_drewN hb _⟩
          case measure => simp [intOf]
        · have hc : Hid (cmpI (dgt a j) (dgt b j) = cmpN a b) := by
            rcases Int.lt_or_lt_of_ne hq with h | h
            · exact Lib.hid (by rw [cmpI_lt h, cmpN_lt (cmp_at he.out h)])
            · exact Lib.hid (by rw [cmpI_gt h, cmpN_gt (cmp_at he.out.symm h)])
          have q : (dgt a j != dgt b j) = true := by rw [bne_iff_ne]; exact hq
          clear hq he
          generalize dgt (a : Int) j = s at e1 hc q
          generalize dgt (b : Int) j = t at e2 hc q
          go_wp2
          go_quiet (fail)
          have e1' : (World.drewN wr nq).cell? ⟨b1, o1 + j, none⟩ = some (.int .i64 s) := e1
          have e2' : (World.drewN wr nq).cell? ⟨b2, o2 + j, none⟩ = some (.int .i64 t) := e2
          have hbl1 : b1 < (World.drewN wr nq).heap.size := hb1
          have hbl2 : b2 < (World.drewN wr nq).heap.size := hb2
          have hb' : Below w.heap.size w (World.drewN wr nq) := below_drewN hb _
          clear e1 e2 hb1 hb2 hb
          generalize World.drewN wr nq = W1 at e1' e2' hbl1 hbl2 hb'
          go_wp2_with fail
          go_region_held3 (fun w' => w'.cell? ⟨b1, o1 + j, none⟩ = some (.int .i64 s) ∧ w'.cell? ⟨b2, o2 + j, none⟩ = some (.int .i64 t) ∧ Below W1.heap.size W1 w')
            (first | (exact ⟨e1', e2', (Below.refl _ _).drew⟩) | (go_split_ands; exact held_two hbl1 hbl2 (by assumption) (by assumption) (by assumption) hbc))
            ((go_at_call 77; refine (compare_b s t _).mono ?_; rintro e w1 ⟨rfl, hbc⟩))
          have hbw : Below w.heap.size w w1 := hb'.trans ((‹_ ∧ _ ∧ Below W1.heap.size W1 w1›).2.2.mono hb'.size)
          go_wp2
          go_ret
          exact ⟨ret_int' hc.out, hbw⟩
  · have hc : Hid (cmpI (n : Int) (n' : Int) = cmpN a b) := by
      rcases Nat.lt_or_gt_of_ne hne with h | h
      · exact Lib.hid (by rw [cmpI_lt (by omega), cmpN_lt (cmp_len_lt (by omega))])
      · exact Lib.hid (by rw [cmpI_gt (by omega), cmpN_gt (cmp_len_lt (by omega))])
    have q : ((n : Int) != (n' : Int)) = true := by rw [bne_iff_ne]; omega
    have hk := Lib.hid (compare_any n n' w)
    clear hn hn'
    go_enter Tryz.func60, Tryz.ntmps60
    go_wp2_with fail
    refine hk.out.mono ?_
    rintro e w1 ⟨rfl, rfl⟩
    go_wp2
    go_ret
    exact ⟨ret_int' hc.out, Below.refl _ _⟩

/-- The answer of 'NatCmp'. -/
def cmpL (l m : List Int) : Int := if ok l && ok m then cmpN (val l) (val m) else 0
theorem val_nd (v : Nat) : val (nd v) = v := by
  have h : Digs (nd v) := fun x hx => by
    obtain ⟨i, _, rfl⟩ := List.mem_map.1 hx
    exact ⟨dgt_nonneg _ _, dgt_lt _ _⟩
  obtain ⟨h1, h2⟩ := row_val _ h
  rw [nd_length] at h1 h2
  have h3 := row_inj (n := ln v) (by omega) h2 (by omega) (ln_lt v) h1
  omega

end Go.Proofs.YtmmgcdfifcbabaaGreatDoor
