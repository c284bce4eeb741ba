/-
  The model's own greatest common divisor.
-/
import Derived.Test.YtcdibaomjojdcaaDivT
import Derived.Test.YtcdibaomjojdcaaToInt
namespace Go.Proofs.Ytcdibaomjojdcaa
open Go.ChangeShapes Go.WideShapes Go.ChangeAt Go.RowKit
open Go.ChangeMaps (open_string shut_string)
set_option linter.unusedVariables false
set_option linter.unusedSimpArgs false
set_option maxRecDepth 4000

set_option maxHeartbeats 500000 in
theorem spec_plain (a b : Nat) (w : World) (ha : a < 1000000000000000000) (hb : b < 1000000000000000000) :
    Calls Try.prog 55 #[.int .i64 (a : Int), .int .i64 (b : Int)] w (MadeI w.heap.size (nd (Nat.gcd a b)) w) := by
  have HG : ∃ G, G = Nat.gcd a b := ⟨_, rfl⟩
  obtain ⟨G, hG⟩ := HG
  rw [← hG]
  have hst := Lib.hid hG.symm
  clear hG
  go_enter Try.func55, Try.ntmps55
  go_wp2_with fail
  go_loop [0, 1] (fun x y => ∃ p q : Nat, x = .int .i64 (p : Int) ∧ y = .int .i64 (q : Int) ∧ p < 1000000000000000000 ∧ q < 1000000000000000000 ∧ Nat.gcd p q = G) (fun _ y => (intOf y).toNat)
  case atStart => exact ⟨a, b, rfl, rfl, ha, hb, hst.out⟩
  case round =>
    obtain ⟨p, q, rfl, rfl, hp, hq, hg⟩ := hrel
    have HG := Lib.hid hg
    clear hg hst ha hb
    by_cases h0 : 0 < q
    · obtain ⟨r, hr⟩ : ∃ r, r = p % q := ⟨_, rfl⟩
      have hrq : r < q := by rw [hr]; exact Nat.mod_lt _ h0
      have hm : (p : Int).tmod (q : Int) = (r : Int) := by rw [hr]; exact (Int.ofNat_tmod p q).symm
      have hz : ¬ (q : Int) = 0 := by omega
      have hg2 : Hid (Nat.gcd q r = G) := Lib.hid (by rw [hr, Nat.gcd_comm, ← Nat.gcd_rec, Nat.gcd_comm]; exact HG.out)
      clear hr
      go_wp2_with fail
      go_round
      case rel => exact ⟨q, r, rfl, rfl, hq, by omega, hg2.out⟩
      case measure => simp [intOf]; omega
    · obtain rfl : q = 0 := by omega
      have hG : p = G := by have := HG.out; rwa [Nat.gcd_zero_right] at this
      subst hG
      go_wp2_with fail
      refine (spec_natOf p _ (by omega)).mono ?_
      intro e w3 hm
      obtain ⟨A2, c2, rfl, hc2, ho2, hb2⟩ := hm
      go_wp2_with fail
      go_ret
      exact ⟨A2, c2, rfl, hc2, ho2, hb2⟩

theorem toV_small {a : Nat} (h : ln a ≤ 2) : toV (nd a) = a ∧ a < 1000000000000000000 := by
  have h1 := lt_pn h
  have h2 : pn 2 = 1000000000000000000 := by decide
  exact ⟨(toV_yes (by omega) (by omega)).1, by omega⟩

/-- The number that a slice of limbs reads as: what a loop counts down. -/
def numAt : Value → World → Nat
  | .slice (some ad) n _, w => val ((List.range n).map (fun j => match w.cell? ⟨ad.block, ad.off + j, none⟩ with | some (.int _ x) => x | _ => 0))
  | _, _ => 0
theorem numAt_eq {w : World} {A : Option Addr} {Y c : Nat} (h : RdS w A (vi (nd Y))) : numAt (.slice A (nd Y).length c) w = Y := by
  by_cases h0 : (nd Y).length = 0
  · have hY : Y = 0 := by rw [nd_length] at h0; exact ln_eq_zero.1 h0
    rw [h0, hY]
    cases A <;> rfl
  · obtain ⟨b, off, rfl, _, hc⟩ := h.block (by rw [vi_length]; omega)
    have e : (List.range (nd Y).length).map (fun j => match w.cell? ⟨b, off + j, none⟩ with | some (.int _ x) => x | _ => 0) = nd Y := by
      apply List.ext_getElem?
      intro j
      rcases Nat.lt_or_ge j (nd Y).length with h1 | h1
      · have h2 := hc j (by rw [vi_length]; exact h1)
        rw [vi_get h1] at h2
        rw [List.getElem?_map, List.getElem?_range h1, List.getElem?_eq_getElem h1]
        simp [h2]
      · rw [List.getElem?_eq_none (by simpa using h1), List.getElem?_eq_none h1]
    show val _ = Y
    rw [e, val_nd]

/-- A slice of the call's own, whatever its capacity. -/
def MadeN (B : Nat) (L : List Int) (w : World) (e : Ending) (w' : World) : Prop :=
  ∃ A c, e = .returned (.slice A L.length c) ∧ OwnS B w' A (vi L) ∧ Below w.heap.size w w'

set_option maxHeartbeats 800000 in
theorem spec_gcd (a b : Nat) (ad bd : Addr) (n c n' d : Nat) (w : World) (hn : ln a = n) (hn' : ln b = n') (h60 : n ≤ 60) (h60' : n' ≤ 60) (hA : RdS w (some ad) (vi (nd a))) (hD : RdS w (some bd) (vi (nd b))) :
    Calls Try.prog 48 #[.slice (some ad) n c, .slice (some bd) n' d] w (MadeN w.heap.size (nd (Nat.gcd a b)) w) := by
  have hl : (nd a).length = n := by rw [nd_length, hn]
  have hl' : (nd b).length = n' := by rw [nd_length, hn']
  have hal : Below w.heap.size w (w.alloc (.cells #[] 3)) := (Below.refl _ _).alloc (Nat.le_refl _) _
  have hs0 : (w.alloc (.cells #[] 3)).ownsRow w.heap.size 3 1 (.slice (some ⟨w.heap.size, 0, none⟩) 0 0) 0 (vi []) := World.ownsRow_made w #[] 0 (by omega) (by simp [maxLen]) rfl
  have HLa := Lib.hid hl
  have HLb := Lib.hid hl'
  have HGab : ∃ G, G = Nat.gcd a b := ⟨_, rfl⟩
  obtain ⟨G, hG⟩ := HGab
  rw [← hG]
  have HG := Lib.hid hG.symm
  have HA := Lib.hid hA
  have HD := Lib.hid hD
  have HN := Lib.hid (And.intro hn hn')
  clear hG hl hl' hA hD hn hn'
  go_enter Try.func48, Try.ntmps48
  go_wp2_with (at_builtin; refine append_ints rfl (.tmp 13) (.tmp 14) rfl w.heap.size 0 n c _ [] (nd a) ad (w.alloc (.cells #[] 3)) rfl rfl hs0 (by omega) (by omega) HLa.out (HA.out.below hal) (by simp) ?_; intro v1 w1 hown1 hb1 hsz1; refine cut_here ?_)
  have hb1' : Below w.heap.size w w1 := hal.trans hb1
  have hal2 : Below w1.heap.size w1 (w1.alloc (.cells #[] 3)) := (Below.refl _ _).alloc (Nat.le_refl _) _
  have hs1 : (w1.alloc (.cells #[] 3)).ownsRow (w1.heap.size) 3 1 (.slice (some ⟨w1.heap.size, 0, none⟩) 0 0) 0 (vi []) := World.ownsRow_made w1 #[] 0 (by omega) (by simp [maxLen]) rfl
  refine Cut.of ?_
  go_wp2_with (at_builtin; refine append_ints rfl (.tmp 16) (.tmp 17) rfl w1.heap.size 0 n' d _ [] (nd b) bd (w1.alloc (.cells #[] 3)) rfl rfl hs1 (by omega) (by omega) HLb.out ((HD.out.below hb1').below hal2) (by simp) ?_; intro v2 w2 hown2 hb2 hsz2; refine cut_here ?_)
  have hb12 : Below w1.heap.size w1 w2 := hal2.trans hb2
  have hbw2 : Below w.heap.size w w2 := bt hb1' hb12
  obtain ⟨A1, c1, hv1, _, _, _⟩ := own_len hown1
  have hO1 := (OwnS.of_own (A := A1) (n := 0 + n) (c := c1) (by rw [← hv1]; exact hown1)).below hb12
  obtain ⟨A2, c2, hv2, _, _, _⟩ := own_len hown2
  have hO2 := (OwnS.of_own (A := A2) (n := 0 + n') (c := c2) (by rw [← hv2]; exact hown2)).more hb1'.size
  subst hv1
  subst hv2
  rw [Nat.zero_add, Nat.zero_add]
  clear hown1 hown2 hs0 hs1 hal hal2 hb1 hb2
  refine Cut.of ?_
  go_wp2_with fail
  go_loopw [5, 6] (fun x y w' => ∃ (X Y cx cy : Nat) (AX AY : Option Addr), x = .slice AX (nd X).length cx ∧ y = .slice AY (nd Y).length cy ∧ OwnS w.heap.size w' AX (vi (nd X)) ∧ OwnS w.heap.size w' AY (vi (nd Y)) ∧ ln X ≤ 60 ∧ ln Y ≤ 60 ∧ Nat.gcd X Y = G ∧ Below w.heap.size w w') (fun _ y w' => numAt y w')
  case atStart =>
    rw [List.nil_append] at hO1 hO2
    exact ⟨a, b, c1, c2, A1, A2, by rw [HLa.out], by rw [HLb.out], hO1, hO2, by have := HN.out; omega, by have := HN.out; omega, HG.out, hbw2⟩
  case round =>
    clear hO1 hO2 hbw2 hb1' hb12 HA HD HG HLa HLb
    obtain ⟨X, Y, cx, cy, AX, AY, rfl, rfl, hX, hY, hlX, hlY, hg, hb⟩ := hrel
    have HG := Lib.hid hg
    clear hg
    have hnY := numAt_eq (c := cy) hY.rd
    by_cases hY0 : Y = 0
    · subst hY0
      have hG : X = G := by have := HG.out; rwa [Nat.gcd_zero_right] at this
      subst hG
      have hz : (nd 0).length = 0 := by rw [nd_zero]; rfl
      clear hnY
      rw [hz]
      go_wp2_with fail
      go_ret
      exact ⟨AX, cx, rfl, hX, hb⟩
    · have hYp : 0 < (nd Y).length := by rw [nd_length, ln_pos (by omega)]; omega
      have HYp := Lib.hid hYp
      have hYi : (0 : Int) < ((nd Y).length : Int) := by omega
      by_cases hs : (nd X).length < 3 ∧ (nd Y).length < 3
      · have vX := toV_small (a := X) (by have := hs.1; rw [nd_length] at this; omega)
        have vY := toV_small (a := Y) (by have := hs.2; rw [nd_length] at this; omega)
        have HTX := Lib.hid (fun W h => spec_toInt (nd X) AX _ cx W rfl (by omega) h)
        have HTY := Lib.hid (fun W h => spec_toInt (nd Y) AY _ cy W rfl (by omega) h)
        rw [vX.1] at HTX
        rw [vY.1] at HTY
        have HPl := Lib.hid (fun W => spec_plain X Y W vX.2 vY.2)
        rw [HG.out] at HPl
        have h3 : ((nd X).length : Int) < 3 := by omega
        have h4 : ((nd Y).length : Int) < 3 := by omega
        clear vX vY hs hnY hYp
        go_wp2_with fail
        refine (HTX.out _ hX.rd).mono ?_
        rintro e w3 ⟨rfl, hb3⟩
        go_wp2_with fail
        refine (HTY.out _ (hY.below hb3).rd).mono ?_
        rintro e w4 ⟨rfl, hb4⟩
        have hb4' := bt (bt hb hb3) hb4
        go_wp2_with fail
        refine (HPl.out _).mono ?_
        intro e w5 hm
        obtain ⟨A5, c5, rfl, hc5, ho5, hb5⟩ := hm
        go_wp2_with fail
        go_ret
        exact ⟨A5, c5, rfl, ho5.more hb4'.size, bt hb4' hb5⟩
      · have HDv := Lib.hid (fun W h h' => spec_div_any X Y AX AY _ cx _ cy W (nd_length X).symm (nd_length Y).symm (by rw [nd_length]; exact hlX) (by rw [nd_length]; exact hlY) HYp.out h h')
        obtain ⟨R, hR⟩ : ∃ R, R = X % Y := ⟨_, rfl⟩
        rw [← hR] at HDv
        have HRY : Hid (R < Y) := Lib.hid (by rw [hR]; exact Nat.mod_lt _ (by omega))
        have hlR : ln R ≤ 60 := by have := ln_mono (Nat.le_of_lt HRY.out); omega
        have hg2 : Hid (Nat.gcd Y R = G) := Lib.hid (by rw [hR, Nat.gcd_comm, ← Nat.gcd_rec, Nat.gcd_comm]; exact HG.out)
        have HnY := Lib.hid hnY
        have h34 : ¬ ((nd X).length : Int) < 3 ∨ ¬ ((nd Y).length : Int) < 3 := by omega
        clear hR hs hnY hYp
        rcases h34 with h3 | h3
        · go_wp2_with fail
          refine (HDv.out _ hX.rd hY.rd).mono ?_
          rintro e w3 ⟨A3, c3, A4, c4, rfl, ho3, ho4, hb3⟩
          have hN4 := Lib.hid (numAt_eq (c := c4) ho4.rd)
          go_wp2_with fail
          go_roundw
          case rel => exact ⟨Y, R, cy, c4, AY, A4, rfl, rfl, hY.below hb3, ho4.more hb.size, hlY, hlR, hg2.out, bt hb hb3⟩
          case measure => rw [HnY.out, hN4.out]; exact HRY.out
        · by_cases h4 : ((nd X).length : Int) < 3
          · go_wp2_with fail
            refine (HDv.out _ hX.rd hY.rd).mono ?_
            rintro e w3 ⟨A3, c3, A4, c4, rfl, ho3, ho4, hb3⟩
            have hN4 := Lib.hid (numAt_eq (c := c4) ho4.rd)
            go_wp2_with fail
            go_roundw
            case rel => exact ⟨Y, R, cy, c4, AY, A4, rfl, rfl, hY.below hb3, ho4.more hb.size, hlY, hlR, hg2.out, bt hb hb3⟩
            case measure => rw [HnY.out, hN4.out]; exact HRY.out
          · go_wp2_with fail
            refine (HDv.out _ hX.rd hY.rd).mono ?_
            rintro e w3 ⟨A3, c3, A4, c4, rfl, ho3, ho4, hb3⟩
            have hN4 := Lib.hid (numAt_eq (c := c4) ho4.rd)
            go_wp2_with fail
            go_roundw
            case rel => exact ⟨Y, R, cy, c4, AY, A4, rfl, rfl, hY.below hb3, ho4.more hb.size, hlY, hlR, hg2.out, bt hb hb3⟩
            case measure => rw [HnY.out, hN4.out]; exact HRY.out
end Go.Proofs.Ytcdibaomjojdcaa
