/-
  'NatGcd' of the program.
-/
import Derived.Test.YtnejpdlikdgnnaaDoorEuc
import Derived.Test.YtnejpdlikdgnnaaDoorGcdS
namespace Go.Proofs.YtnejpdlikdgnnaaDoor
open Go.ChangeShapes Go.WideShapes Go.ChangeAt Go.RowKit
open Go.ChangeMaps (open_string shut_string)
set_option linter.unusedVariables false
set_option linter.unusedSimpArgs false
set_option maxRecDepth 4000

theorem made_copy {w w' : World} {g X : Nat} (hB : Blk w' g (row (ln X + 0) X)) (hg : w.heap.size ≤ g) (hb : Below w.heap.size w w') : MadeN w.heap.size (nd X) w (.returned (.slice (some ⟨g, 0, none⟩) (ln X + 0) (ln X + 0))) w' := by
  have hr : row (ln X + 0) X = nd X := rfl
  rw [hr] at hB
  refine ⟨some ⟨g, 0, none⟩, ln X, by rw [nd_length]; rfl, .inr ⟨g, rfl, hg, hB.lt, fun j hj => ?_, fun j _ => hB.free j⟩, hb⟩
  rw [vi_length] at hj
  rw [vi_get hj]
  exact hB.cell (List.getElem?_eq_getElem hj)

set_option maxHeartbeats 500000 in
theorem impl_gcd (a b : Nat) (A D : Option Addr) (n c n' d : Nat) (w : World) (hn : ln a = n) (hn' : ln b = n') (h60 : n ≤ 60) (h60' : n' ≤ 60) (hA : RdS w A (vi (nd a))) (hD : RdS w D (vi (nd b))) :
    Calls Tryd.prog 13 #[.slice A n c, .slice D n' d] w (MadeN w.heap.size (nd (Nat.gcd a b)) w) := by
  have H1 := are_any (nd a) (nd b) A D n c n' d w (by rw [nd_length, hn]) (by rw [nd_length, hn']) (by omega) (by omega) hA hD
  rw [nd_ok (by omega), nd_ok (by omega)] at H1
  have H2 := Lib.hid (impl_cmp a b A D n c n' d w hn hn' (by omega) (by omega) hA hD)
  obtain ⟨G, hG⟩ : ∃ G, G = Nat.gcd a b := ⟨_, rfl⟩
  rw [← hG]
  have HG := Lib.hid hG.symm
  have HA := Lib.hid hA
  have HD := Lib.hid hD
  have HLa := Lib.hid (show (nd a).length = n by rw [nd_length, hn])
  have HLb := Lib.hid (show (nd b).length = n' by rw [nd_length, hn'])
  have HN := Lib.hid (And.intro hn hn')
  obtain ⟨v, hv⟩ : ∃ v, v = cmpN a b := ⟨_, rfl⟩
  rw [← hv] at H2
  have hcmp : (v < 0 ∧ a < b) ∨ (¬ v < 0 ∧ b ≤ a) := by
    rcases Nat.lt_or_ge a b with h | h
    · exact .inl ⟨by rw [hv, cmpN_lt h]; omega, h⟩
    · refine .inr ⟨?_, h⟩
      rcases Nat.lt_or_ge b a with h' | h'
      · rw [hv, cmpN_gt h']; omega
      · rw [hv, cmpN_eq (by omega)]; omega
  clear hG hA hD hn hn' hv
  go_enter Tryd.func13, Tryd.ntmps13
  go_wp2_with fail
  refine H1.mono ?_
  rintro e w1 ⟨rfl, rfl⟩
  go_wp2_with fail
  refine H2.out.mono ?_
  rintro e w1 ⟨rfl, hb1⟩
  have HB1 := Lib.hid hb1
  rcases hcmp with ⟨hv, hab⟩ | ⟨hv, hab⟩
  all_goals
    clear hb1
    go_wp2_with fail
    go_loopw [0, 1] (fun x y w' => ∃ (X Y cx cy : Nat) (AX AY : Option Addr), x = .slice AX (nd X).length cx ∧ y = .slice AY (nd Y).length cy ∧ RdS w' AX (vi (nd X)) ∧ RdS w' AY (vi (nd Y)) ∧ ln X ≤ 60 ∧ Y ≤ X ∧ Nat.gcd X Y = G ∧ Below w.heap.size w w') (fun _ y w' => numAt y w')
    case atStart =>
      first
      | exact ⟨a, b, c, d, A, D, by rw [HLa.out], by rw [HLb.out], HA.out.below HB1.out, HD.out.below HB1.out, by have := HN.out; omega, hab, HG.out, HB1.out⟩
      | exact ⟨b, a, d, c, D, A, by rw [HLb.out], by rw [HLa.out], HD.out.below HB1.out, HA.out.below HB1.out, by have := HN.out; omega, Nat.le_of_lt hab, by rw [Nat.gcd_comm]; exact HG.out, HB1.out⟩
    case round =>
      clear HA HD HG HLa HLb HB1 H1 H2
      obtain ⟨X, Y, cx, cy, AX, AY, rfl, rfl, hX, hY, hlX, hYX, hg, hb⟩ := hrel
      have HGx := Lib.hid hg
      clear hg
      have hlY : ln Y ≤ 60 := by have := ln_mono hYX; omega
      have HnY := Lib.hid (numAt_eq (c := cy) hY)
      have HXl := Lib.hid (nd_length X)
      have HYl := Lib.hid (nd_length Y)
      by_cases hY0 : Y = 0
      · subst hY0
        have hG : X = G := by have := HGx.out; rwa [Nat.gcd_zero_right] at this
        subst hG
        have HC := Lib.hid (copy_int X AX (ln X) cx 0 0 wr rfl rfl (by omega) (by omega) hX)
        have hz : (nd 0).length = 0 := by rw [nd_zero]; rfl
        rw [nd_length X, hz]
        clear HnY HYl
        by_cases hi1 : (2 : Int) < (ln X : Int)
        · go_wp2_with fail
          refine HC.out.mono ?_
          rintro e w4 ⟨g, hg, rfl, hB, hb4⟩
          have hm := made_copy hB (Nat.le_trans hb.size hg) (bt hb hb4)
          go_wp2_with fail
          go_ret
          exact hm
        · go_wp2_with fail
          refine HC.out.mono ?_
          rintro e w4 ⟨g, hg, rfl, hB, hb4⟩
          have hm := made_copy hB (Nat.le_trans hb.size hg) (bt hb hb4)
          go_wp2_with fail
          go_ret
          exact hm
      · have hYp : 0 < ln Y := by rw [ln_pos (by omega)]; omega
        by_cases hX3 : 2 < ln X
        · have HE := Lib.hid (euc_any X Y AX AY (ln X) cx (ln Y) cy wr rfl rfl hlX (by omega) hYX (by omega) hX hY)
          rw [nd_length X, nd_length Y]
          have hi1 : (2 : Int) < (ln X : Int) := by omega
          have hi2 : (0 : Int) < (ln Y : Int) := by omega
          go_wp2_with fail
          refine HE.out.mono ?_
          rintro e w4 ⟨X2, Y2, cx2, cy2, A2, D2, rfl, hX2, hY2, g2, g3, g4, g5, hb4⟩
          have hN4 := Lib.hid (numAt_eq (c := cy2) hY2)
          have HnY' : numAt (.slice AY (ln Y) cy) wr = Y := by have := HnY.out; rwa [nd_length] at this
          have HR := Lib.hid (And.intro HnY' (And.intro g4 (And.intro (g2.trans HGx.out) (And.intro g3 (show ln X2 ≤ 60 by have := ln_mono g5; omega)))))
          clear HnY'
          have hbw := bt hb hb4
          go_wp2_with fail
          go_roundw
          case rel => exact ⟨X2, Y2, cx2, cy2, A2, D2, rfl, rfl, hX2, hY2, HR.out.2.2.2.2, HR.out.2.2.2.1, HR.out.2.2.1, hbw⟩
          case measure => rw [HR.out.1, hN4.out]; exact HR.out.2.1
        · obtain ⟨tX, sX⟩ := toV_small (a := X) (by omega)
          obtain ⟨tY, sY⟩ := toV_small (a := Y) (by have := ln_mono hYX; omega)
          have HTX := Lib.hid (fun W h => impl_toInt (nd X) AX (ln X) cx W (nd_length X) (by omega) h)
          have HTY := Lib.hid (fun W h => impl_toInt (nd Y) AY (ln Y) cy W (nd_length Y) (by omega) h)
          rw [tX] at HTX
          rw [tY] at HTY
          rw [nd_length X, nd_length Y]
          have hi1 : ¬ (2 : Int) < (ln X : Int) := by omega
          have hi2 : ¬ (ln Y : Int) = 0 := by omega
          clear tX tY
          go_wp2_with fail
          refine (HTX.out _ hX).mono ?_
          rintro e w4 ⟨rfl, rfl⟩
          go_wp2_with fail
          refine (HTY.out _ hY).mono ?_
          rintro e w4 ⟨rfl, rfl⟩
          go_wp2_with fail
          clear HTX HTY hX hY HnY
          go_loopw [5, 7] (fun x y w' => ∃ p q : Nat, x = .int .i64 (p : Int) ∧ y = .int .i64 (q : Int) ∧ p < 1000000000000000000 ∧ q < 1000000000000000000 ∧ Nat.gcd p q = G ∧ Below w.heap.size w w') (fun _ y _ => (intOf y).toNat)
          case atStart => exact ⟨X, Y, rfl, rfl, sX, sY, HGx.out, hb⟩
          case round =>
            clear HGx hb
            obtain ⟨p, q, rfl, rfl, hp, hq, hg, hb⟩ := hrel
            have HG2 := Lib.hid hg
            clear hg
            by_cases h0 : 0 < q
            · obtain ⟨r, hr⟩ : ∃ r, r = p % q := ⟨_, rfl⟩
              have hrq : r < q := by rw [hr]; exact Nat.mod_lt _ h0
              have hm : (p : Int).tmod (q : Int) = (r : Int) := by rw [hr]; exact (Int.ofNat_tmod p q).symm
              have hz : ¬ (q : Int) = 0 := by omega
              have hg2 : Hid (Nat.gcd q r = G) := Lib.hid (by rw [hr, Nat.gcd_comm, ← Nat.gcd_rec, Nat.gcd_comm]; exact HG2.out)
              clear hr
              go_wp2_with fail
              go_quiet (fail)
              have hb' : Below w.heap.size w (World.drewN wr nq) := below_drewN hb _
              go_wp2
              go_roundw
              case rel => exact ⟨q, r, rfl, rfl, hq, by omega, hg2.out, hb'⟩
              case measure => simp [intOf]; omega
            · obtain rfl : q = 0 := by omega
              have hG : p = G := by have := HG2.out; rwa [Nat.gcd_zero_right] at this
              subst hG
              have HO := Lib.hid (fun W => impl_natOf p W (by omega))
              go_wp2_with fail
              refine (HO.out _).mono ?_
              rintro e w5 ⟨A5, c5, rfl, _, hO5, hb5⟩
              have hbw := bt hb hb5
              have hOw := hO5.more hb.size
              go_wp2_with fail
              go_ret
              exact ⟨A5, c5, rfl, hOw, hbw⟩
end Go.Proofs.YtnejpdlikdgnnaaDoor
