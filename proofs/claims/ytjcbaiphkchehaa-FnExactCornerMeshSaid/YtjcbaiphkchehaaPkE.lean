/-
  Fractions of the model: 'l04One', 'RatOk'.
-/
import Derived.Test.YtjcbaiphkchehaaPkD
import Derived.Test.YtjcbaiphkchehaaPkB
import Derived.Deep.RegionHeld3
import Derived.Deep.DrawnRows
import Derived.Deep.DeepCutAuto
namespace Go.Proofs.Ytjcbaiphkchehaa
open Go.ChangeShapes Go.WideShapes Go.ChangeAt Go.RowKit
open Go.ChangeMaps (open_string shut_string)
set_option linter.unusedVariables false
set_option linter.unusedSimpArgs false
set_option maxRecDepth 4000

set_option maxHeartbeats 400000 in
theorem one_any (l : List Int) (A : Option Addr) (n c : Nat) (w : World) (hl : l.length = n) (hn : n ≤ 9223372036854775807) (hA : RdS w A (vi l)) :
    Calls Try.prog 53 #[.slice A n c] w fun e w' => e = .returned (.bool (decide (l = [1]))) ∧ Below w.heap.size w w' := by
  by_cases h1 : n = 1
  · subst h1
    obtain ⟨x, rfl⟩ : ∃ x, l = [x] := by
      match l, hl with
      | [x], _ => exact ⟨x, rfl⟩
    obtain ⟨b1, o1, rfl, hb1, e1⟩ := hA.int (k := 0) (x := x) rfl
    rw [Nat.add_zero] at e1
    clear hA
    have hq : decide ([x] = [1]) = (x == 1) := by by_cases h : x = 1 <;> simp [h]
    rw [hq]
    go_enter Try.func53, Try.ntmps53
    go_wp2
    go_ret
    exact ⟨rfl, Below.refl _ _⟩
  · have hq : decide (l = [1]) = false := decide_eq_false (fun h => h1 (by rw [← hl, h]; rfl))
    rw [hq]
    have hz : ((n : Int) == 1) = false := by rw [beq_eq_false_iff_ne]; omega
    clear hA hl
    go_enter Try.func53, Try.ntmps53
    go_wp2
    go_ret
    exact ⟨rfl, Below.refl _ _⟩

end Go.Proofs.Ytjcbaiphkchehaa

namespace Go.Proofs.Ytjcbaiphkchehaa
open Go.ChangeShapes Go.WideShapes Go.ChangeAt Go.RowKit
open Go.ChangeMaps (open_string shut_string)
set_option linter.unusedVariables false
set_option linter.unusedSimpArgs false
set_option maxRecDepth 4000

set_option maxHeartbeats 400000 in
/-- 'l02Trim' cuts a row that is read where it lies. -/
theorem trim_rr (n c T : Nat) (A : Option Addr) (w : World) (ho : RdS w A (vi (row n T))) (hT : ln T ≤ n) (hc : n ≤ c) (hn : n ≤ 1048576) :
    Calls Try.prog 52 #[.slice A n c] w fun e w' => e = .returned (.slice A (ln T) c) ∧ w = w' := by
  by_cases h0 : n = 0
  · subst h0
    have hz : Hid (ln T = 0) := Lib.hid (by omega)
    clear ho hT
    cases A with
    | none =>
      go_enter Try.func52, Try.ntmps52
      go_wp2
      go_loop [3] (fun i => i = .int .i64 0) (fun i => 0)
      case atStart => exact rfl
      case round =>
        obtain rfl := hrel
        go_wp2
        go_ret
        exact ⟨by rw [hz.out]; rfl, rfl⟩
    | some ad =>
      go_enter Try.func52, Try.ntmps52
      go_wp2
      go_loop [3] (fun i => i = .int .i64 0) (fun i => 0)
      case atStart => exact rfl
      case round =>
        obtain rfl := hrel
        go_wp2
        go_ret
        exact ⟨by rw [hz.out]; rfl, rfl⟩
  · obtain ⟨g, off, rfl, hgw, hcell⟩ := ho.block (by rw [vi_length, row_length]; omega)
    have hrd := ho
    clear ho hcell
    go_enter Try.func52, Try.ntmps52
    go_wp2
    go_loop [3] (fun i => ∃ k : Nat, k ≤ n ∧ ln T ≤ k ∧ i = .int .i64 (k : Int)) (fun i => (intOf i).toNat)
    case atStart => exact ⟨n, Nat.le_refl _, hT, rfl⟩
    case round =>
      obtain ⟨k, hk, hTk, rfl⟩ := hrel
      by_cases hz : 0 < k ∧ dgt T (k - 1) = 0
      · have hc1 := hrd.int_at (row_get (n := n) (i := k - 1) T (by omega))
        have h2 := trim_step hz.1 hTk hz.2
        have hp := hz.1
        rw [hz.2] at hc1
        have hk1 : ((k : Int) - 1) = ((k - 1 : Nat) : Int) := by omega
        have hk0 : (0 : Int) ≤ (k : Int) - 1 := by omega
        have hk2 : (k : Int) - 1 < (n : Int) := by omega
        have hkt : ((k : Int) - 1).toNat = k - 1 := by omega
        clear hz
        go_wp2
        go_round
        case rel => exact ⟨k - 1, by omega, h2, by go_num⟩
        case measure => simp [intOf]; omega
      · have hkT : Hid (ln T = k) := by
          refine Lib.hid ?_
          by_cases h0 : 0 < k
          · exact trim_stop h0 hTk (fun e => hz ⟨h0, e⟩)
          · omega
        by_cases h0 : 0 < k
        · have hc1 := hrd.int_at (row_get (n := n) (i := k - 1) T (by omega))
          have hne : dgt T (k - 1) ≠ 0 := fun e => hz ⟨h0, e⟩
          have hk1 : ((k : Int) - 1) = ((k - 1 : Nat) : Int) := by omega
          clear hz
          generalize dgt T (k - 1) = x at hc1 hne
          have q : (x == 0) = false := by rw [beq_eq_false_iff_ne]; exact hne
          go_wp2
          go_ret
          exact ⟨by rw [hkT.out]; rfl, rfl⟩
        · obtain rfl : k = 0 := by omega
          go_wp2
          go_ret
          exact ⟨by rw [hkT.out]; rfl, rfl⟩

theorem RdS.take {w : World} {A : Option Addr} {l : List Value} (h : RdS w A l) (k : Nat) : RdS w A (l.take k) := by
  rcases h with h | ⟨b, off, ha, hb, hc⟩
  · exact .inl (by rw [h, List.take_nil])
  · refine .inr ⟨b, off, ha, hb, fun j hj => ?_⟩
    rw [List.length_take] at hj
    rw [hc j (by omega), List.getElem?_take, if_pos (by omega)]
theorem row_val_ex (T : Nat) {n : Nat} {w : World} {A : Option Addr} (h : RdS w A (vi (row n T))) (hT : ln T ≤ n) : RdS w A (vi (nd T)) := by
  have h2 := RdS.take h (ln T)
  rw [← vi_take, row_take _ hT] at h2
  exact h2

set_option maxHeartbeats 1000000 in
theorem low_zero (s : Bool) (a b : Nat) (A D : Option Addr) (n c k d : Nat) (w : World) (ha : ln a ≤ n) (hb : ln b ≤ k) (hn : n ≤ 60) (hk : k ≤ 60) (hb0 : b = 0) (hcA : n ≤ c) (hcD : k ≤ d) (hA : RdS w A (vi (row n a))) (hD : RdS w D (vi (row k b))) :
    Calls Try.prog 41 #[.bool s, .slice A n c, .slice D k d] w (MadeR w.heap.size false [] [] w) := by
  have TA := Lib.hid (fun W h => trim_rr n c a A W h ha hcA (by omega))
  have TB := Lib.hid (fun W h => trim_rr k d b D W h hb hcD (by omega))
  have hz : ln b = 0 := by rw [hb0, ln_zero]
  rw [hz] at TB
  clear ha hb hn hk hb0 hz
  go_enter Try.func41, Try.ntmps41
  go_wp2_with fail
  refine (TA.out _ (hA.below (ba1 _ _))).mono ?_
  rintro e w1 ⟨rfl, rfl⟩
  go_wp2_with fail
  refine (TB.out _ (hD.below (ba1 _ _))).mono ?_
  rintro e w1 ⟨rfl, rfl⟩
  have kb := ba1 w (.cells #[.bool false, .slice none 0 0, .slice none 0 0] 37)
  have P := heap_alloc_new w (.cells #[.bool false, .slice none 0 0, .slice none 0 0] 37)
  generalize w.alloc (.cells #[.bool false, .slice none 0 0, .slice none 0 0] 37) = W1 at kb P ⊢
  have r0 : W1.cell? ⟨w.heap.size, 0, none⟩ = some (.bool false) := rblk_cell P 0
  have r1 : W1.cell? ⟨w.heap.size, 1, none⟩ = some (.slice none 0 0) := rblk_cell P 1
  have r2 : W1.cell? ⟨w.heap.size, 2, none⟩ = some (.slice none 0 0) := rblk_cell P 2
  have s0 := rblk_free P 0
  have s1 := rblk_free P 1
  have s2 := rblk_free P 2
  go_wp2
  exact bodyPost_ret (v := .agg #[.bool false, .slice none 0 0, .slice none 0 0]) (by simp [results, Try.results41, go_sem, r0, r1, r2]) rfl ⟨none, 0, none, 0, rfl, Nat.le_refl _, Nat.le_refl _, .inl rfl, .inl rfl, (fun a h => by simp [rowOf] at h), below_put (below_put (below_put kb (by omega) _) (by omega) _) (by omega) _⟩

-- GEN BELOW
theorem nd_one : nd 1 = [1] := by unfold nd; rw [ln_pos (by decide), show 1 / 1000000000 = 0 by decide, ln_zero]; decide
set_option maxHeartbeats 1000000 in
theorem low_one_fit (s : Bool) (a b : Nat) (A D : Option Addr) (n c k d : Nat) (w : World) (ha : ln a ≤ n) (hb : ln b ≤ k) (hn : n ≤ 60) (hk : k ≤ 60) (hb0 : 0 < b) (hb1 : b = 1) (hg : Nat.gcd a b = 1) (h24 : ln a ≤ 24 ∧ ln b ≤ 24) (hcA : n ≤ c) (hcD : k ≤ d) (hA : RdS w A (vi (row n a))) (hD : RdS w D (vi (row k b))) :
    Calls Try.prog 41 #[.bool s, .slice A n c, .slice D k d] w (MadeR w.heap.size (s && decide (nd a ≠ [])) (nd a) (nd b) w) := by
  have TA := Lib.hid (fun W h => trim_rr n c a A W h ha hcA (by omega))
  have TB := Lib.hid (fun W h => trim_rr k d b D W h hb hcD (by omega))
  have RD := row_val_ex b hD hb
  have RA := row_val_ex a hA ha
  have hlb : 0 < ln b := by rw [ln_pos hb0]; omega
  have hbl : (nd b).length = ln b := nd_length b
  have hz0 : ((ln b : Int) == 0) = false := by rw [beq_eq_false_iff_ne]; omega
  have hz1 : ¬ (ln b : Int) = 0 := by omega
  have HO := Lib.hid (fun W (h : RdS W D (vi (nd b))) => one_any (nd b) D (ln b) d W hbl (by omega) h)
  rw [show decide (nd b = [1]) = true from decide_eq_true (by rw [hb1, nd_one])] at HO
  have hlx : (nd a).length = ln a := nd_length _
  have hly : (nd b).length = ln b := nd_length _
  have HMk := Lib.hid (fun W A' c' (hc : (nd a).length ≤ c') (h : RdS W A' (vi (nd a))) => make_rd s a (nd a).length c' A' W (nd_length _).symm (by omega) hc h)
  rw [cap60_yes' (show ln a ≤ 60 by omega)] at HMk
  have hcx : (nd a).length ≤ c := by omega
  have k1 : ¬ (24 : Int) < (((nd a).length : Nat) : Int) := by omega
  have k2 : ¬ (24 : Int) < (((nd b).length : Nat) : Int) := by omega
  have k3 : (nd b).length ≤ 1048576 := by omega
  have nA : (nd a).length = ln a := nd_length a
  rw [← nA] at TA
  rw [← hbl] at TB HO hz0 hz1
  clear ha hb hn hk h24 hcA hcD hb0 hb1 hg hlb hbl hlx hly nA
  generalize nd a = LA at TA RA hcx k1 HMk ⊢
  generalize nd b = LB at TB RD HO hz0 hz1 k1 k2 k3 ⊢
  generalize (s && decide (LA ≠ [])) = sg at HMk ⊢
  go_enter Try.func41, Try.ntmps41
  go_wp2_with fail
  have kb := ba1 w (.cells #[.bool false, .slice none 0 0, .slice none 0 0] 37)
  have P := heap_alloc_new w (.cells #[.bool false, .slice none 0 0, .slice none 0 0] 37)
  generalize w.alloc (.cells #[.bool false, .slice none 0 0, .slice none 0 0] 37) = W1 at kb P ⊢
  refine (TA.out _ (hA.below kb)).mono ?_
  rintro e w1 ⟨rfl, rfl⟩
  go_wp2_with fail
  refine (TB.out _ (hD.below kb)).mono ?_
  rintro e w1 ⟨rfl, rfl⟩
  go_wp2_with fail
  refine (HO.out _ (RD.below kb)).mono ?_
  rintro e w2 ⟨rfl, hb⟩
  replace P := rblk_below P hb
  replace kb := bt kb hb
  clear hb
  go_wp2_with fail
  have hlt2 := rblk_lt P
  refine (HMk.out _ _ _ hcx (RA.below kb)).mono ?_
  rintro e w3 ⟨A3, c3, rfl, hc3, o3, hb⟩
  replace P := rblk_below P hb
  replace kb := bt kb hb
  clear hb
  have hlt3 := rblk_lt P
  have hs0 : (w3.alloc (.cells #[] 3)).ownsRow w3.heap.size 3 1 (.slice (some ⟨w3.heap.size, 0, none⟩) 0 0) 0 (vi []) := World.ownsRow_made w3 #[] 0 (by omega) (by simp [maxLen]) rfl
  have RY := ((RD.below kb)).below (ba1 w3 (.cells #[] 3))
  go_wp2_with (at_builtin; refine append_rd rfl (.tmp 51) (.tmp 52) rfl w3.heap.size 0 LB.length d _ [] LB D (w3.alloc (.cells #[] 3)) rfl rfl hs0 (by omega) k3 rfl RY (by simp) ?_; intro v1 w4 hown hb4 hsz4; refine cut_here ?_)
  have hb34 : Below w3.heap.size w3 w4 := (ba1 w3 (.cells #[] 3)).trans hb4
  clear hb4 hsz4 hs0 RY
  rw [Nat.zero_add, List.nil_append] at hown
  obtain ⟨A4, c4, hv4, hcc4, _, _⟩ := own_len hown
  subst hv4
  have o4 := OwnS.of_own hown
  clear hown
  replace P := rblk_below P hb34
  replace kb := bt kb hb34
  have i3 := o3.inR (vi_length LA)
  have i4 := o4.inR (vi_length LB)
  have hap : Apart LA.length A3 LB.length A4 := i3.apart i4 (.inl (Nat.le_refl _))
  replace o3 := o3.below hb34
  have r0 : w4.cell? ⟨w.heap.size, 0, none⟩ = some (.bool false) := rblk_cell P 0
  have r1 : w4.cell? ⟨w.heap.size, 1, none⟩ = some (.slice none 0 0) := rblk_cell P 1
  have r2 : w4.cell? ⟨w.heap.size, 2, none⟩ = some (.slice none 0 0) := rblk_cell P 2
  have s0 := rblk_free P 0
  have s1 := rblk_free P 1
  have s2 := rblk_free P 2
  refine Cut.of ?_
  go_wp2
  exact bodyPost_ret (v := .agg #[.bool sg, .slice A3 LA.length c3, .slice A4 LB.length c4]) (by simp [results, Try.results41, go_sem, r0, r1, r2]) rfl ⟨A3, c3, A4, c4, rfl, hc3, hcc4, (((o3.put (by omega) _).put (by omega) _).put (by omega) _).more (by omega), (((o4.put (by omega) _).put (by omega) _).put (by omega) _).more (by omega), hap, below_put (below_put (below_put kb (by omega) _) (by omega) _) (by omega) _⟩

set_option maxHeartbeats 1000000 in
theorem low_one_big (s : Bool) (a b : Nat) (A D : Option Addr) (n c k d : Nat) (w : World) (ha : ln a ≤ n) (hb : ln b ≤ k) (hn : n ≤ 60) (hk : k ≤ 60) (hb0 : 0 < b) (hb1 : b = 1) (hg : Nat.gcd a b = 1) (h24 : ¬ (ln a ≤ 24 ∧ ln b ≤ 24)) (hcA : n ≤ c) (hcD : k ≤ d) (hA : RdS w A (vi (row n a))) (hD : RdS w D (vi (row k b))) :
    Calls Try.prog 41 #[.bool s, .slice A n c, .slice D k d] w (MadeR w.heap.size false [] [] w) := by
  have TA := Lib.hid (fun W h => trim_rr n c a A W h ha hcA (by omega))
  have TB := Lib.hid (fun W h => trim_rr k d b D W h hb hcD (by omega))
  have RD := row_val_ex b hD hb
  have RA := row_val_ex a hA ha
  have hlb : 0 < ln b := by rw [ln_pos hb0]; omega
  have hbl : (nd b).length = ln b := nd_length b
  have hz0 : ((ln b : Int) == 0) = false := by rw [beq_eq_false_iff_ne]; omega
  have hz1 : ¬ (ln b : Int) = 0 := by omega
  have HO := Lib.hid (fun W (h : RdS W D (vi (nd b))) => one_any (nd b) D (ln b) d W hbl (by omega) h)
  rw [show decide (nd b = [1]) = true from decide_eq_true (by rw [hb1, nd_one])] at HO
  have hlx : (nd a).length = ln a := nd_length _
  have hly : (nd b).length = ln b := nd_length _
  have hcx : (nd a).length ≤ c := by omega
  have k1 : (24 : Int) < (((nd a).length : Nat) : Int) ∨ (24 : Int) < (((nd b).length : Nat) : Int) := by omega
  have nA : (nd a).length = ln a := nd_length a
  rw [← nA] at TA
  rw [← hbl] at TB HO hz0 hz1
  clear ha hb hn hk h24 hcA hcD hb0 hb1 hg hlb hbl hlx hly nA
  generalize nd a = LA at TA RA hcx k1
  generalize nd b = LB at TB RD HO hz0 hz1 k1
  go_enter Try.func41, Try.ntmps41
  go_wp2_with fail
  have kb := ba1 w (.cells #[.bool false, .slice none 0 0, .slice none 0 0] 37)
  have P := heap_alloc_new w (.cells #[.bool false, .slice none 0 0, .slice none 0 0] 37)
  generalize w.alloc (.cells #[.bool false, .slice none 0 0, .slice none 0 0] 37) = W1 at kb P ⊢
  refine (TA.out _ (hA.below kb)).mono ?_
  rintro e w1 ⟨rfl, rfl⟩
  go_wp2_with fail
  refine (TB.out _ (hD.below kb)).mono ?_
  rintro e w1 ⟨rfl, rfl⟩
  go_wp2_with fail
  refine (HO.out _ (RD.below kb)).mono ?_
  rintro e w2 ⟨rfl, hb⟩
  replace P := rblk_below P hb
  replace kb := bt kb hb
  clear hb
  have r0 : w2.cell? ⟨w.heap.size, 0, none⟩ = some (.bool false) := rblk_cell P 0
  have r1 : w2.cell? ⟨w.heap.size, 1, none⟩ = some (.slice none 0 0) := rblk_cell P 1
  have r2 : w2.cell? ⟨w.heap.size, 2, none⟩ = some (.slice none 0 0) := rblk_cell P 2
  have s0 := rblk_free P 0
  have s1 := rblk_free P 1
  have s2 := rblk_free P 2
  by_cases k0 : (24 : Int) < (((LA).length : Nat) : Int)
  · clear k1
    go_wp2
    exact bodyPost_ret (v := .agg #[.bool false, .slice none 0 0, .slice none 0 0]) (by simp [results, Try.results41, go_sem, r0, r1, r2]) rfl ⟨none, 0, none, 0, rfl, Nat.le_refl _, Nat.le_refl _, .inl rfl, .inl rfl, (fun a h => by simp [rowOf] at h), below_put (below_put (below_put kb (by omega) _) (by omega) _) (by omega) _⟩
  · have k2 : (24 : Int) < (((LB).length : Nat) : Int) := by omega
    clear k1
    go_wp2
    exact bodyPost_ret (v := .agg #[.bool false, .slice none 0 0, .slice none 0 0]) (by simp [results, Try.results41, go_sem, r0, r1, r2]) rfl ⟨none, 0, none, 0, rfl, Nat.le_refl _, Nat.le_refl _, .inl rfl, .inl rfl, (fun a h => by simp [rowOf] at h), below_put (below_put (below_put kb (by omega) _) (by omega) _) (by omega) _⟩

set_option maxHeartbeats 1000000 in
theorem low_g1_fit (s : Bool) (a b : Nat) (A D : Option Addr) (n c k d : Nat) (w : World) (ha : ln a ≤ n) (hb : ln b ≤ k) (hn : n ≤ 60) (hk : k ≤ 60) (hb0 : 0 < b) (hb1 : b ≠ 1) (hg : Nat.gcd a b = 1) (h24 : ln a ≤ 24 ∧ ln b ≤ 24) (hcA : n ≤ c) (hcD : k ≤ d) (hA : RdS w A (vi (row n a))) (hD : RdS w D (vi (row k b))) :
    Calls Try.prog 41 #[.bool s, .slice A n c, .slice D k d] w (MadeR w.heap.size (s && decide (nd a ≠ [])) (nd a) (nd b) w) := by
  have TA := Lib.hid (fun W h => trim_rr n c a A W h ha hcA (by omega))
  have TB := Lib.hid (fun W h => trim_rr k d b D W h hb hcD (by omega))
  have RD := row_val_ex b hD hb
  have RA := row_val_ex a hA ha
  have hlb : 0 < ln b := by rw [ln_pos hb0]; omega
  have hbl : (nd b).length = ln b := nd_length b
  have hz0 : ((ln b : Int) == 0) = false := by rw [beq_eq_false_iff_ne]; omega
  have hz1 : ¬ (ln b : Int) = 0 := by omega
  have HO := Lib.hid (fun W (h : RdS W D (vi (nd b))) => one_any (nd b) D (ln b) d W hbl (by omega) h)
  rw [show decide (nd b = [1]) = false from decide_eq_false (fun e => hb1 (nd_inj (by rw [e, nd_one])))] at HO
  have HG := Lib.hid (fun W h h' => spec_gcd_rd a b A D (ln a) c (ln b) d W rfl rfl (by omega) (by omega) h h')
  have hgp : 0 < Nat.gcd a b := Nat.gcd_pos_of_pos_right _ hb0
  have hgl : ln (Nat.gcd a b) ≤ 60 := by have := ln_mono (Nat.le_of_dvd hb0 (Nat.gcd_dvd_right a b)); omega
  have H1 := Lib.hid (fun A' c' W h => one_any (nd (Nat.gcd a b)) A' _ c' W rfl (by rw [nd_length]; omega) h)
  rw [show decide (nd (Nat.gcd a b) = [1]) = true from decide_eq_true (by rw [hg, nd_one])] at H1
  have hlx : (nd a).length = ln a := nd_length _
  have hly : (nd b).length = ln b := nd_length _
  have HMk := Lib.hid (fun W A' c' (hc : (nd a).length ≤ c') (h : RdS W A' (vi (nd a))) => make_rd s a (nd a).length c' A' W (nd_length _).symm (by omega) hc h)
  rw [cap60_yes' (show ln a ≤ 60 by omega)] at HMk
  have hcx : (nd a).length ≤ c := by omega
  have k1 : ¬ (24 : Int) < (((nd a).length : Nat) : Int) := by omega
  have k2 : ¬ (24 : Int) < (((nd b).length : Nat) : Int) := by omega
  have k3 : (nd b).length ≤ 1048576 := by omega
  have nA : (nd a).length = ln a := nd_length a
  rw [← nA] at TA HG
  rw [← hbl] at TB HO hz0 hz1 HG
  clear ha hb hn hk h24 hcA hcD hb0 hb1 hg hlb hbl hlx hly nA hgp hgl
  generalize nd (Nat.gcd a b) = G at HG H1
  generalize nd a = LA at TA RA HG hcx k1 HMk ⊢
  generalize nd b = LB at TB RD HO hz0 hz1 HG k1 k2 k3 ⊢
  generalize (s && decide (LA ≠ [])) = sg at HMk ⊢
  go_enter Try.func41, Try.ntmps41
  go_wp2_with fail
  have kb := ba1 w (.cells #[.bool false, .slice none 0 0, .slice none 0 0] 37)
  have P := heap_alloc_new w (.cells #[.bool false, .slice none 0 0, .slice none 0 0] 37)
  generalize w.alloc (.cells #[.bool false, .slice none 0 0, .slice none 0 0] 37) = W1 at kb P ⊢
  refine (TA.out _ (hA.below kb)).mono ?_
  rintro e w1 ⟨rfl, rfl⟩
  go_wp2_with fail
  refine (TB.out _ (hD.below kb)).mono ?_
  rintro e w1 ⟨rfl, rfl⟩
  go_wp2_with fail
  refine (HO.out _ (RD.below kb)).mono ?_
  rintro e w2 ⟨rfl, hb⟩
  replace P := rblk_below P hb
  replace kb := bt kb hb
  clear hb
  go_wp2_with fail
  refine (HG.out _ (RA.below kb) (RD.below kb)).mono ?_
  rintro e w5 ⟨A5, c5, rfl, o5, hb⟩
  replace P := rblk_below P hb
  replace kb := bt kb hb
  clear hb
  go_wp2_with fail
  refine (H1.out _ _ _ o5.rd).mono ?_
  rintro e w6 ⟨rfl, hb⟩
  replace P := rblk_below P hb
  replace kb := bt kb hb
  replace o5 := o5.below hb
  clear hb
  go_wp2_with fail
  have hlt2 := rblk_lt P
  refine (HMk.out _ _ _ hcx (RA.below kb)).mono ?_
  rintro e w3 ⟨A3, c3, rfl, hc3, o3, hb⟩
  replace P := rblk_below P hb
  replace kb := bt kb hb
  clear hb
  have hlt3 := rblk_lt P
  have hs0 : (w3.alloc (.cells #[] 3)).ownsRow w3.heap.size 3 1 (.slice (some ⟨w3.heap.size, 0, none⟩) 0 0) 0 (vi []) := World.ownsRow_made w3 #[] 0 (by omega) (by simp [maxLen]) rfl
  have RY := ((RD.below kb)).below (ba1 w3 (.cells #[] 3))
  go_wp2_with (at_builtin; refine append_rd rfl (.tmp 51) (.tmp 52) rfl w3.heap.size 0 LB.length d _ [] LB D (w3.alloc (.cells #[] 3)) rfl rfl hs0 (by omega) k3 rfl RY (by simp) ?_; intro v1 w4 hown hb4 hsz4; refine cut_here ?_)
  have hb34 : Below w3.heap.size w3 w4 := (ba1 w3 (.cells #[] 3)).trans hb4
  clear hb4 hsz4 hs0 RY
  rw [Nat.zero_add, List.nil_append] at hown
  obtain ⟨A4, c4, hv4, hcc4, _, _⟩ := own_len hown
  subst hv4
  have o4 := OwnS.of_own hown
  clear hown
  replace P := rblk_below P hb34
  replace kb := bt kb hb34
  have i3 := o3.inR (vi_length LA)
  have i4 := o4.inR (vi_length LB)
  have hap : Apart LA.length A3 LB.length A4 := i3.apart i4 (.inl (Nat.le_refl _))
  replace o3 := o3.below hb34
  have r0 : w4.cell? ⟨w.heap.size, 0, none⟩ = some (.bool false) := rblk_cell P 0
  have r1 : w4.cell? ⟨w.heap.size, 1, none⟩ = some (.slice none 0 0) := rblk_cell P 1
  have r2 : w4.cell? ⟨w.heap.size, 2, none⟩ = some (.slice none 0 0) := rblk_cell P 2
  have s0 := rblk_free P 0
  have s1 := rblk_free P 1
  have s2 := rblk_free P 2
  refine Cut.of ?_
  go_wp2
  exact bodyPost_ret (v := .agg #[.bool sg, .slice A3 LA.length c3, .slice A4 LB.length c4]) (by simp [results, Try.results41, go_sem, r0, r1, r2]) rfl ⟨A3, c3, A4, c4, rfl, hc3, hcc4, (((o3.put (by omega) _).put (by omega) _).put (by omega) _).more (by omega), (((o4.put (by omega) _).put (by omega) _).put (by omega) _).more (by omega), hap, below_put (below_put (below_put kb (by omega) _) (by omega) _) (by omega) _⟩

set_option maxHeartbeats 1000000 in
theorem low_g1_big (s : Bool) (a b : Nat) (A D : Option Addr) (n c k d : Nat) (w : World) (ha : ln a ≤ n) (hb : ln b ≤ k) (hn : n ≤ 60) (hk : k ≤ 60) (hb0 : 0 < b) (hb1 : b ≠ 1) (hg : Nat.gcd a b = 1) (h24 : ¬ (ln a ≤ 24 ∧ ln b ≤ 24)) (hcA : n ≤ c) (hcD : k ≤ d) (hA : RdS w A (vi (row n a))) (hD : RdS w D (vi (row k b))) :
    Calls Try.prog 41 #[.bool s, .slice A n c, .slice D k d] w (MadeR w.heap.size false [] [] w) := by
  have TA := Lib.hid (fun W h => trim_rr n c a A W h ha hcA (by omega))
  have TB := Lib.hid (fun W h => trim_rr k d b D W h hb hcD (by omega))
  have RD := row_val_ex b hD hb
  have RA := row_val_ex a hA ha
  have hlb : 0 < ln b := by rw [ln_pos hb0]; omega
  have hbl : (nd b).length = ln b := nd_length b
  have hz0 : ((ln b : Int) == 0) = false := by rw [beq_eq_false_iff_ne]; omega
  have hz1 : ¬ (ln b : Int) = 0 := by omega
  have HO := Lib.hid (fun W (h : RdS W D (vi (nd b))) => one_any (nd b) D (ln b) d W hbl (by omega) h)
  rw [show decide (nd b = [1]) = false from decide_eq_false (fun e => hb1 (nd_inj (by rw [e, nd_one])))] at HO
  have HG := Lib.hid (fun W h h' => spec_gcd_rd a b A D (ln a) c (ln b) d W rfl rfl (by omega) (by omega) h h')
  have hgp : 0 < Nat.gcd a b := Nat.gcd_pos_of_pos_right _ hb0
  have hgl : ln (Nat.gcd a b) ≤ 60 := by have := ln_mono (Nat.le_of_dvd hb0 (Nat.gcd_dvd_right a b)); omega
  have H1 := Lib.hid (fun A' c' W h => one_any (nd (Nat.gcd a b)) A' _ c' W rfl (by rw [nd_length]; omega) h)
  rw [show decide (nd (Nat.gcd a b) = [1]) = true from decide_eq_true (by rw [hg, nd_one])] at H1
  have hlx : (nd a).length = ln a := nd_length _
  have hly : (nd b).length = ln b := nd_length _
  have hcx : (nd a).length ≤ c := by omega
  have k1 : (24 : Int) < (((nd a).length : Nat) : Int) ∨ (24 : Int) < (((nd b).length : Nat) : Int) := by omega
  have nA : (nd a).length = ln a := nd_length a
  rw [← nA] at TA HG
  rw [← hbl] at TB HO hz0 hz1 HG
  clear ha hb hn hk h24 hcA hcD hb0 hb1 hg hlb hbl hlx hly nA hgp hgl
  generalize nd (Nat.gcd a b) = G at HG H1
  generalize nd a = LA at TA RA HG hcx k1
  generalize nd b = LB at TB RD HO hz0 hz1 HG k1
  go_enter Try.func41, Try.ntmps41
  go_wp2_with fail
  have kb := ba1 w (.cells #[.bool false, .slice none 0 0, .slice none 0 0] 37)
  have P := heap_alloc_new w (.cells #[.bool false, .slice none 0 0, .slice none 0 0] 37)
  generalize w.alloc (.cells #[.bool false, .slice none 0 0, .slice none 0 0] 37) = W1 at kb P ⊢
  refine (TA.out _ (hA.below kb)).mono ?_
  rintro e w1 ⟨rfl, rfl⟩
  go_wp2_with fail
  refine (TB.out _ (hD.below kb)).mono ?_
  rintro e w1 ⟨rfl, rfl⟩
  go_wp2_with fail
  refine (HO.out _ (RD.below kb)).mono ?_
  rintro e w2 ⟨rfl, hb⟩
  replace P := rblk_below P hb
  replace kb := bt kb hb
  clear hb
  go_wp2_with fail
  refine (HG.out _ (RA.below kb) (RD.below kb)).mono ?_
  rintro e w5 ⟨A5, c5, rfl, o5, hb⟩
  replace P := rblk_below P hb
  replace kb := bt kb hb
  clear hb
  go_wp2_with fail
  refine (H1.out _ _ _ o5.rd).mono ?_
  rintro e w6 ⟨rfl, hb⟩
  replace P := rblk_below P hb
  replace kb := bt kb hb
  replace o5 := o5.below hb
  clear hb
  have r0 : w6.cell? ⟨w.heap.size, 0, none⟩ = some (.bool false) := rblk_cell P 0
  have r1 : w6.cell? ⟨w.heap.size, 1, none⟩ = some (.slice none 0 0) := rblk_cell P 1
  have r2 : w6.cell? ⟨w.heap.size, 2, none⟩ = some (.slice none 0 0) := rblk_cell P 2
  have s0 := rblk_free P 0
  have s1 := rblk_free P 1
  have s2 := rblk_free P 2
  by_cases k0 : (24 : Int) < (((LA).length : Nat) : Int)
  · clear k1
    go_wp2
    exact bodyPost_ret (v := .agg #[.bool false, .slice none 0 0, .slice none 0 0]) (by simp [results, Try.results41, go_sem, r0, r1, r2]) rfl ⟨none, 0, none, 0, rfl, Nat.le_refl _, Nat.le_refl _, .inl rfl, .inl rfl, (fun a h => by simp [rowOf] at h), below_put (below_put (below_put kb (by omega) _) (by omega) _) (by omega) _⟩
  · have k2 : (24 : Int) < (((LB).length : Nat) : Int) := by omega
    clear k1
    go_wp2
    exact bodyPost_ret (v := .agg #[.bool false, .slice none 0 0, .slice none 0 0]) (by simp [results, Try.results41, go_sem, r0, r1, r2]) rfl ⟨none, 0, none, 0, rfl, Nat.le_refl _, Nat.le_refl _, .inl rfl, .inl rfl, (fun a h => by simp [rowOf] at h), below_put (below_put (below_put kb (by omega) _) (by omega) _) (by omega) _⟩

set_option maxHeartbeats 1000000 in
theorem low_g2_fit (s : Bool) (a b : Nat) (A D : Option Addr) (n c k d : Nat) (w : World) (ha : ln a ≤ n) (hb : ln b ≤ k) (hn : n ≤ 60) (hk : k ≤ 60) (hb0 : 0 < b) (hb1 : b ≠ 1) (hg : Nat.gcd a b ≠ 1) (h24 : ln (a / Nat.gcd a b) ≤ 24 ∧ ln (b / Nat.gcd a b) ≤ 24) (hcA : n ≤ c) (hcD : k ≤ d) (hA : RdS w A (vi (row n a))) (hD : RdS w D (vi (row k b))) :
    Calls Try.prog 41 #[.bool s, .slice A n c, .slice D k d] w (MadeR w.heap.size (s && decide (nd (a / Nat.gcd a b) ≠ [])) (nd (a / Nat.gcd a b)) (nd (b / Nat.gcd a b)) w) := by
  have TA := Lib.hid (fun W h => trim_rr n c a A W h ha hcA (by omega))
  have TB := Lib.hid (fun W h => trim_rr k d b D W h hb hcD (by omega))
  have RD := row_val_ex b hD hb
  have RA := row_val_ex a hA ha
  have hlb : 0 < ln b := by rw [ln_pos hb0]; omega
  have hbl : (nd b).length = ln b := nd_length b
  have hz0 : ((ln b : Int) == 0) = false := by rw [beq_eq_false_iff_ne]; omega
  have hz1 : ¬ (ln b : Int) = 0 := by omega
  have HO := Lib.hid (fun W (h : RdS W D (vi (nd b))) => one_any (nd b) D (ln b) d W hbl (by omega) h)
  rw [show decide (nd b = [1]) = false from decide_eq_false (fun e => hb1 (nd_inj (by rw [e, nd_one])))] at HO
  have HG := Lib.hid (fun W h h' => spec_gcd_rd a b A D (ln a) c (ln b) d W rfl rfl (by omega) (by omega) h h')
  have hgp : 0 < Nat.gcd a b := Nat.gcd_pos_of_pos_right _ hb0
  have hgl : ln (Nat.gcd a b) ≤ 60 := by have := ln_mono (Nat.le_of_dvd hb0 (Nat.gcd_dvd_right a b)); omega
  have H1 := Lib.hid (fun A' c' W h => one_any (nd (Nat.gcd a b)) A' _ c' W rfl (by rw [nd_length]; omega) h)
  rw [show decide (nd (Nat.gcd a b) = [1]) = false from decide_eq_false (fun e => hg (nd_inj (by rw [e, nd_one])))] at H1
  have hgn : 0 < (nd (Nat.gcd a b)).length := by rw [nd_length, ln_pos hgp]; omega
  have HDa := Lib.hid (fun W A' c' h h' => spec_div_any a (Nat.gcd a b) A A' (ln a) c (nd (Nat.gcd a b)).length c' W rfl (by rw [nd_length]) (by omega) (by rw [nd_length]; omega) hgn h h')
  have HDb := Lib.hid (fun W A' c' h h' => spec_div_any b (Nat.gcd a b) D A' (ln b) d (nd (Nat.gcd a b)).length c' W rfl (by rw [nd_length]) (by omega) (by rw [nd_length]; omega) hgn h h')
  have hlx : (nd (a / Nat.gcd a b)).length = ln (a / Nat.gcd a b) := nd_length _
  have hly : (nd (b / Nat.gcd a b)).length = ln (b / Nat.gcd a b) := nd_length _
  have HMk := Lib.hid (fun W A' c' (hc : (nd (a / Nat.gcd a b)).length ≤ c') (h : RdS W A' (vi (nd (a / Nat.gcd a b)))) => make_rd s (a / Nat.gcd a b) (nd (a / Nat.gcd a b)).length c' A' W (nd_length _).symm (by omega) hc h)
  rw [cap60_yes' (show ln (a / Nat.gcd a b) ≤ 60 by omega)] at HMk
  have k1 : ¬ (24 : Int) < (((nd (a / Nat.gcd a b)).length : Nat) : Int) := by omega
  have k2 : ¬ (24 : Int) < (((nd (b / Nat.gcd a b)).length : Nat) : Int) := by omega
  have k3 : (nd (b / Nat.gcd a b)).length ≤ 1048576 := by omega
  have nA : (nd a).length = ln a := nd_length a
  rw [← nA] at TA HG HDa
  rw [← hbl] at TB HO hz0 hz1 HG HDb
  clear ha hb hn hk h24 hcA hcD hb0 hb1 hg hlb hbl hlx hly nA hgp hgl hgn
  generalize nd (a / Nat.gcd a b) = X at HDa k1 HMk ⊢
  generalize nd (b / Nat.gcd a b) = Y at HDb k1 k2 k3 ⊢
  generalize nd (a % Nat.gcd a b) = Z1 at HDa
  generalize nd (b % Nat.gcd a b) = Z2 at HDb
  generalize nd (Nat.gcd a b) = G at HG H1 HDa HDb
  generalize nd a = LA at TA RA HG HDa
  generalize nd b = LB at TB RD HO hz0 hz1 HG HDb
  generalize (s && decide (X ≠ [])) = sg at HMk ⊢
  go_enter Try.func41, Try.ntmps41
  go_wp2_with fail
  have kb := ba1 w (.cells #[.bool false, .slice none 0 0, .slice none 0 0] 37)
  have P := heap_alloc_new w (.cells #[.bool false, .slice none 0 0, .slice none 0 0] 37)
  generalize w.alloc (.cells #[.bool false, .slice none 0 0, .slice none 0 0] 37) = W1 at kb P ⊢
  refine (TA.out _ (hA.below kb)).mono ?_
  rintro e w1 ⟨rfl, rfl⟩
  go_wp2_with fail
  refine (TB.out _ (hD.below kb)).mono ?_
  rintro e w1 ⟨rfl, rfl⟩
  go_wp2_with fail
  refine (HO.out _ (RD.below kb)).mono ?_
  rintro e w2 ⟨rfl, hb⟩
  replace P := rblk_below P hb
  replace kb := bt kb hb
  clear hb
  go_wp2_with fail
  refine (HG.out _ (RA.below kb) (RD.below kb)).mono ?_
  rintro e w5 ⟨A5, c5, rfl, o5, hb⟩
  replace P := rblk_below P hb
  replace kb := bt kb hb
  clear hb
  go_wp2_with fail
  refine (H1.out _ _ _ o5.rd).mono ?_
  rintro e w6 ⟨rfl, hb⟩
  replace P := rblk_below P hb
  replace kb := bt kb hb
  replace o5 := o5.below hb
  clear hb
  go_wp2_with fail
  refine (HDa.out _ _ _ (RA.below kb) o5.rd).mono ?_
  rintro e w7 ⟨A7, c7, D7, d7, rfl, hcx, o7, -, hb⟩
  replace P := rblk_below P hb
  replace kb := bt kb hb
  replace o5 := o5.below hb
  clear hb
  go_wp2_with fail
  refine (HDb.out _ _ _ (RD.below kb) o5.rd).mono ?_
  rintro e w8 ⟨A8, c8, D8, d8, rfl, -, o8, -, hb⟩
  replace P := rblk_below P hb
  replace kb := bt kb hb
  replace o7 := o7.below hb
  clear hb
  go_wp2_with fail
  have hlt2 := rblk_lt P
  refine (HMk.out _ _ _ hcx o7.rd).mono ?_
  rintro e w3 ⟨A3, c3, rfl, hc3, o3, hb⟩
  replace P := rblk_below P hb
  replace kb := bt kb hb
  replace o8 := o8.below hb
  clear hb
  have hlt3 := rblk_lt P
  have hs0 : (w3.alloc (.cells #[] 3)).ownsRow w3.heap.size 3 1 (.slice (some ⟨w3.heap.size, 0, none⟩) 0 0) 0 (vi []) := World.ownsRow_made w3 #[] 0 (by omega) (by simp [maxLen]) rfl
  have RY := (o8.rd).below (ba1 w3 (.cells #[] 3))
  go_wp2_with (at_builtin; refine append_rd rfl (.tmp 51) (.tmp 52) rfl w3.heap.size 0 Y.length c8 _ [] Y A8 (w3.alloc (.cells #[] 3)) rfl rfl hs0 (by omega) k3 rfl RY (by simp) ?_; intro v1 w4 hown hb4 hsz4; refine cut_here ?_)
  have hb34 : Below w3.heap.size w3 w4 := (ba1 w3 (.cells #[] 3)).trans hb4
  clear hb4 hsz4 hs0 RY
  rw [Nat.zero_add, List.nil_append] at hown
  obtain ⟨A4, c4, hv4, hcc4, _, _⟩ := own_len hown
  subst hv4
  have o4 := OwnS.of_own hown
  clear hown
  replace P := rblk_below P hb34
  replace kb := bt kb hb34
  have i3 := o3.inR (vi_length X)
  have i4 := o4.inR (vi_length Y)
  have hap : Apart X.length A3 Y.length A4 := i3.apart i4 (.inl (Nat.le_refl _))
  replace o3 := o3.below hb34
  have r0 : w4.cell? ⟨w.heap.size, 0, none⟩ = some (.bool false) := rblk_cell P 0
  have r1 : w4.cell? ⟨w.heap.size, 1, none⟩ = some (.slice none 0 0) := rblk_cell P 1
  have r2 : w4.cell? ⟨w.heap.size, 2, none⟩ = some (.slice none 0 0) := rblk_cell P 2
  have s0 := rblk_free P 0
  have s1 := rblk_free P 1
  have s2 := rblk_free P 2
  refine Cut.of ?_
  go_wp2
  exact bodyPost_ret (v := .agg #[.bool sg, .slice A3 X.length c3, .slice A4 Y.length c4]) (by simp [results, Try.results41, go_sem, r0, r1, r2]) rfl ⟨A3, c3, A4, c4, rfl, hc3, hcc4, (((o3.put (by omega) _).put (by omega) _).put (by omega) _).more (by omega), (((o4.put (by omega) _).put (by omega) _).put (by omega) _).more (by omega), hap, below_put (below_put (below_put kb (by omega) _) (by omega) _) (by omega) _⟩

set_option maxHeartbeats 1000000 in
theorem low_g2_big (s : Bool) (a b : Nat) (A D : Option Addr) (n c k d : Nat) (w : World) (ha : ln a ≤ n) (hb : ln b ≤ k) (hn : n ≤ 60) (hk : k ≤ 60) (hb0 : 0 < b) (hb1 : b ≠ 1) (hg : Nat.gcd a b ≠ 1) (h24 : ¬ (ln (a / Nat.gcd a b) ≤ 24 ∧ ln (b / Nat.gcd a b) ≤ 24)) (hcA : n ≤ c) (hcD : k ≤ d) (hA : RdS w A (vi (row n a))) (hD : RdS w D (vi (row k b))) :
    Calls Try.prog 41 #[.bool s, .slice A n c, .slice D k d] w (MadeR w.heap.size false [] [] w) := by
  have TA := Lib.hid (fun W h => trim_rr n c a A W h ha hcA (by omega))
  have TB := Lib.hid (fun W h => trim_rr k d b D W h hb hcD (by omega))
  have RD := row_val_ex b hD hb
  have RA := row_val_ex a hA ha
  have hlb : 0 < ln b := by rw [ln_pos hb0]; omega
  have hbl : (nd b).length = ln b := nd_length b
  have hz0 : ((ln b : Int) == 0) = false := by rw [beq_eq_false_iff_ne]; omega
  have hz1 : ¬ (ln b : Int) = 0 := by omega
  have HO := Lib.hid (fun W (h : RdS W D (vi (nd b))) => one_any (nd b) D (ln b) d W hbl (by omega) h)
  rw [show decide (nd b = [1]) = false from decide_eq_false (fun e => hb1 (nd_inj (by rw [e, nd_one])))] at HO
  have HG := Lib.hid (fun W h h' => spec_gcd_rd a b A D (ln a) c (ln b) d W rfl rfl (by omega) (by omega) h h')
  have hgp : 0 < Nat.gcd a b := Nat.gcd_pos_of_pos_right _ hb0
  have hgl : ln (Nat.gcd a b) ≤ 60 := by have := ln_mono (Nat.le_of_dvd hb0 (Nat.gcd_dvd_right a b)); omega
  have H1 := Lib.hid (fun A' c' W h => one_any (nd (Nat.gcd a b)) A' _ c' W rfl (by rw [nd_length]; omega) h)
  rw [show decide (nd (Nat.gcd a b) = [1]) = false from decide_eq_false (fun e => hg (nd_inj (by rw [e, nd_one])))] at H1
  have hgn : 0 < (nd (Nat.gcd a b)).length := by rw [nd_length, ln_pos hgp]; omega
  have HDa := Lib.hid (fun W A' c' h h' => spec_div_any a (Nat.gcd a b) A A' (ln a) c (nd (Nat.gcd a b)).length c' W rfl (by rw [nd_length]) (by omega) (by rw [nd_length]; omega) hgn h h')
  have HDb := Lib.hid (fun W A' c' h h' => spec_div_any b (Nat.gcd a b) D A' (ln b) d (nd (Nat.gcd a b)).length c' W rfl (by rw [nd_length]) (by omega) (by rw [nd_length]; omega) hgn h h')
  have hlx : (nd (a / Nat.gcd a b)).length = ln (a / Nat.gcd a b) := nd_length _
  have hly : (nd (b / Nat.gcd a b)).length = ln (b / Nat.gcd a b) := nd_length _
  have k1 : (24 : Int) < (((nd (a / Nat.gcd a b)).length : Nat) : Int) ∨ (24 : Int) < (((nd (b / Nat.gcd a b)).length : Nat) : Int) := by omega
  have nA : (nd a).length = ln a := nd_length a
  rw [← nA] at TA HG HDa
  rw [← hbl] at TB HO hz0 hz1 HG HDb
  clear ha hb hn hk h24 hcA hcD hb0 hb1 hg hlb hbl hlx hly nA hgp hgl hgn
  generalize nd (a / Nat.gcd a b) = X at HDa k1
  generalize nd (b / Nat.gcd a b) = Y at HDb k1
  generalize nd (a % Nat.gcd a b) = Z1 at HDa
  generalize nd (b % Nat.gcd a b) = Z2 at HDb
  generalize nd (Nat.gcd a b) = G at HG H1 HDa HDb
  generalize nd a = LA at TA RA HG HDa
  generalize nd b = LB at TB RD HO hz0 hz1 HG HDb
  go_enter Try.func41, Try.ntmps41
  go_wp2_with fail
  have kb := ba1 w (.cells #[.bool false, .slice none 0 0, .slice none 0 0] 37)
  have P := heap_alloc_new w (.cells #[.bool false, .slice none 0 0, .slice none 0 0] 37)
  generalize w.alloc (.cells #[.bool false, .slice none 0 0, .slice none 0 0] 37) = W1 at kb P ⊢
  refine (TA.out _ (hA.below kb)).mono ?_
  rintro e w1 ⟨rfl, rfl⟩
  go_wp2_with fail
  refine (TB.out _ (hD.below kb)).mono ?_
  rintro e w1 ⟨rfl, rfl⟩
  go_wp2_with fail
  refine (HO.out _ (RD.below kb)).mono ?_
  rintro e w2 ⟨rfl, hb⟩
  replace P := rblk_below P hb
  replace kb := bt kb hb
  clear hb
  go_wp2_with fail
  refine (HG.out _ (RA.below kb) (RD.below kb)).mono ?_
  rintro e w5 ⟨A5, c5, rfl, o5, hb⟩
  replace P := rblk_below P hb
  replace kb := bt kb hb
  clear hb
  go_wp2_with fail
  refine (H1.out _ _ _ o5.rd).mono ?_
  rintro e w6 ⟨rfl, hb⟩
  replace P := rblk_below P hb
  replace kb := bt kb hb
  replace o5 := o5.below hb
  clear hb
  go_wp2_with fail
  refine (HDa.out _ _ _ (RA.below kb) o5.rd).mono ?_
  rintro e w7 ⟨A7, c7, D7, d7, rfl, hcx, o7, -, hb⟩
  replace P := rblk_below P hb
  replace kb := bt kb hb
  replace o5 := o5.below hb
  clear hb
  go_wp2_with fail
  refine (HDb.out _ _ _ (RD.below kb) o5.rd).mono ?_
  rintro e w8 ⟨A8, c8, D8, d8, rfl, -, o8, -, hb⟩
  replace P := rblk_below P hb
  replace kb := bt kb hb
  replace o7 := o7.below hb
  clear hb
  have r0 : w8.cell? ⟨w.heap.size, 0, none⟩ = some (.bool false) := rblk_cell P 0
  have r1 : w8.cell? ⟨w.heap.size, 1, none⟩ = some (.slice none 0 0) := rblk_cell P 1
  have r2 : w8.cell? ⟨w.heap.size, 2, none⟩ = some (.slice none 0 0) := rblk_cell P 2
  have s0 := rblk_free P 0
  have s1 := rblk_free P 1
  have s2 := rblk_free P 2
  by_cases k0 : (24 : Int) < (((X).length : Nat) : Int)
  · clear k1
    go_wp2
    exact bodyPost_ret (v := .agg #[.bool false, .slice none 0 0, .slice none 0 0]) (by simp [results, Try.results41, go_sem, r0, r1, r2]) rfl ⟨none, 0, none, 0, rfl, Nat.le_refl _, Nat.le_refl _, .inl rfl, .inl rfl, (fun a h => by simp [rowOf] at h), below_put (below_put (below_put kb (by omega) _) (by omega) _) (by omega) _⟩
  · have k2 : (24 : Int) < (((Y).length : Nat) : Int) := by omega
    clear k1
    go_wp2
    exact bodyPost_ret (v := .agg #[.bool false, .slice none 0 0, .slice none 0 0]) (by simp [results, Try.results41, go_sem, r0, r1, r2]) rfl ⟨none, 0, none, 0, rfl, Nat.le_refl _, Nat.le_refl _, .inl rfl, .inl rfl, (fun a h => by simp [rowOf] at h), below_put (below_put (below_put kb (by omega) _) (by omega) _) (by omega) _⟩

/-- The fraction of a sign, a magnitude and a denominator in lowest terms, or none. -/
def lowQ (s : Bool) (a b : Nat) : Option Rat := if b = 0 then none else cutQ (mkRat (sgn s a) b)
theorem lowQ_parts (s : Bool) (a b : Nat) (hb0 : 0 < b) : (mkRat (sgn s a) b).num.natAbs = a / Nat.gcd a b ∧ (mkRat (sgn s a) b).den = b / Nat.gcd a b ∧ zn (mkRat (sgn s a) b).num = (s && decide (nd (a / Nat.gcd a b) ≠ [])) := by
  obtain ⟨h1, h2, h3⟩ := low_parts (sgn s a) b hb0
  rw [sgn_abs] at h1 h2
  refine ⟨h1, h2, ?_⟩
  rw [h3, sgn_zn]
  congr 1
  have hg : 0 < Nat.gcd a b := Nat.gcd_pos_of_pos_right _ hb0
  have hd : Nat.gcd a b ∣ a := Nat.gcd_dvd_left a b
  by_cases h : a = 0
  · subst h
    rw [Nat.zero_div, nd_zero]
    simp
  · have : nd (a / Nat.gcd a b) ≠ [] := fun e => by
      have h0 := nd_nil_iff.1 e
      have := Nat.div_pos (Nat.le_of_dvd (by omega) hd) hg
      omega
    rw [decide_eq_true h, decide_eq_true this]
theorem lowQ_yes (s : Bool) (a b : Nat) (hb0 : 0 < b) (h24 : ln (a / Nat.gcd a b) ≤ 24 ∧ ln (b / Nat.gcd a b) ≤ 24) : qn (lowQ s a b) = (s && decide (nd (a / Nat.gcd a b) ≠ [])) ∧ ql (lowQ s a b) = nd (a / Nat.gcd a b) ∧ qd (lowQ s a b) = nd (b / Nat.gcd a b) := by
  obtain ⟨h1, h2, h3⟩ := lowQ_parts s a b hb0
  have hf : Fit (mkRat (sgn s a) b) := by unfold Fit; rw [h1, h2]; exact h24
  have e : lowQ s a b = some (mkRat (sgn s a) b) := by unfold lowQ; rw [if_neg (by omega), cutQ_in hf]
  rw [e]
  refine ⟨h3, ?_, ?_⟩
  · show zm _ = _
    unfold zm; rw [h1]
  · show nd _ = _
    rw [h2]
theorem lowQ_no (s : Bool) (a b : Nat) (h : b = 0 ∨ ¬ (ln (a / Nat.gcd a b) ≤ 24 ∧ ln (b / Nat.gcd a b) ≤ 24)) : lowQ s a b = none := by
  unfold lowQ
  by_cases hb : b = 0
  · rw [if_pos hb]
  · rw [if_neg hb]
    obtain ⟨h1, h2, _⟩ := lowQ_parts s a b (by omega)
    refine cutQ_out ?_
    unfold Fit
    rw [h1, h2]
    rcases h with h | h
    · exact absurd h hb
    · exact h
/-- 'l04Low' of the model. -/
theorem spec_low (s : Bool) (a b : Nat) (A D : Option Addr) (n c k d : Nat) (w : World) (ha : ln a ≤ n) (hb : ln b ≤ k) (hn : n ≤ 60) (hk : k ≤ 60) (hcA : n ≤ c) (hcD : k ≤ d) (hA : RdS w A (vi (row n a))) (hD : RdS w D (vi (row k b))) :
    Calls Try.prog 41 #[.bool s, .slice A n c, .slice D k d] w (MadeR w.heap.size (qn (lowQ s a b)) (ql (lowQ s a b)) (qd (lowQ s a b)) w) := by
  by_cases hb0 : b = 0
  · rw [lowQ_no s a b (.inl hb0)]
    exact low_zero s a b A D n c k d w ha hb hn hk hb0 hcA hcD hA hD
  · have hbp : 0 < b := by omega
    by_cases h24 : ln (a / Nat.gcd a b) ≤ 24 ∧ ln (b / Nat.gcd a b) ≤ 24
    · obtain ⟨e1, e2, e3⟩ := lowQ_yes s a b hbp h24
      by_cases hg : Nat.gcd a b = 1
      · simp only [hg, Nat.div_one] at h24 e1 e2 e3
        by_cases h1 : b = 1
        · exact (low_one_fit s a b A D n c k d w ha hb hn hk hbp h1 hg h24 hcA hcD hA hD).mono fun e w' h => h.to e1 e2 e3
        · exact (low_g1_fit s a b A D n c k d w ha hb hn hk hbp h1 hg h24 hcA hcD hA hD).mono fun e w' h => h.to e1 e2 e3
      · have h1 : b ≠ 1 := fun e => hg (by rw [e]; exact Nat.gcd_one_right a)
        exact (low_g2_fit s a b A D n c k d w ha hb hn hk hbp h1 hg h24 hcA hcD hA hD).mono fun e w' h => h.to e1 e2 e3
    · rw [lowQ_no s a b (.inr h24)]
      by_cases hg : Nat.gcd a b = 1
      · simp only [hg, Nat.div_one] at h24
        by_cases h1 : b = 1
        · exact low_one_big s a b A D n c k d w ha hb hn hk hbp h1 hg h24 hcA hcD hA hD
        · exact low_g1_big s a b A D n c k d w ha hb hn hk hbp h1 hg h24 hcA hcD hA hD
      · have h1 : b ≠ 1 := fun e => hg (by rw [e]; exact Nat.gcd_one_right a)
        exact low_g2_big s a b A D n c k d w ha hb hn hk hbp h1 hg h24 hcA hcD hA hD
end Go.Proofs.Ytjcbaiphkchehaa

namespace Go.Proofs.Ytjcbaiphkchehaa
open Go.ChangeShapes Go.WideShapes Go.ChangeAt Go.RowKit
open Go.ChangeMaps (open_string shut_string)
set_option linter.unusedVariables false
set_option linter.unusedSimpArgs false
set_option maxRecDepth 4000

/-- 'l03Make' of a sign and a product. -/
theorem make_z (p : Bool) (v : Nat) (z : Int) (hz : sgn p v = z) (h60 : ln v ≤ 60) : (p && decide (cap60 v ≠ [])) = zn z ∧ cap60 v = zm z := by
  rw [cap60_yes' h60]
  subst hz
  refine ⟨?_, ?_⟩
  · rw [sgn_zn]
    congr 1
    by_cases h : v = 0
    · rw [h, nd_zero]; simp
    · rw [decide_eq_true h, decide_eq_true (nd_pos h)]
  · unfold zm; rw [sgn_abs]

/-- The order of two fractions; 0 where one is none. -/
def cmpO (x y : Option Rat) : Int := match x, y with
  | some r, some s => cmpQ r s
  | _, _ => 0
end Go.Proofs.Ytjcbaiphkchehaa

namespace Go.Proofs.Ytjcbaiphkchehaa
open Go.ChangeShapes Go.WideShapes Go.ChangeAt Go.RowKit
open Go.ChangeMaps (open_string shut_string)
set_option linter.unusedVariables false
set_option linter.unusedSimpArgs false
set_option maxRecDepth 4000

attribute [local go_sem ↓] Go.wp_at_zero Go.wp_at_succ

theorem low_mul (r s : Rat) : lowQ (!(zn r.num == zn s.num)) (r.num.natAbs * s.num.natAbs) (r.den * s.den) = mulQ r s := by
  unfold lowQ mulQ
  rw [if_neg (Nat.mul_ne_zero r.den_nz s.den_nz), Rat.mul_def', show sgn (!(zn r.num == zn s.num)) (r.num.natAbs * s.num.natAbs) = r.num * s.num from times_z r.num s.num]
end Go.Proofs.Ytjcbaiphkchehaa

namespace Go.Proofs.Ytjcbaiphkchehaa
open Go.ChangeShapes Go.WideShapes Go.ChangeAt Go.RowKit
open Go.ChangeMaps (open_string shut_string)
set_option linter.unusedVariables false
set_option linter.unusedSimpArgs false
set_option maxRecDepth 4000

attribute [local go_sem ↓] Go.wp_at_zero Go.wp_at_succ

theorem rd_one {w : World} {g : Nat} {T : TypeId} {x : Int} (P : w.heap[g]? = some (.cells #[.int .i64 x] T (0, 0))) : RdS w (some ⟨g, 0, none⟩) (vi [x]) :=
  .inr ⟨g, 0, rfl, rblk_lt P, fun j hj => by
    have hj' : j = 0 := by simp [vi] at hj; exact hj
    subst hj'
    rw [Nat.zero_add, rblk_cell P 0]
    rfl⟩
theorem low_add (r s : Rat) : lowQ (zn (r.num * s.den + s.num * r.den)) (r.num * s.den + s.num * r.den).natAbs (r.den * s.den) = addQ r s := by
  unfold lowQ addQ
  rw [if_neg (Nat.mul_ne_zero r.den_nz s.den_nz), sgn_z, Rat.add_def']
theorem low_add_one (r s : Rat) (h : r.den = 1) (h' : s.den = 1) : lowQ (zn (r.num + s.num)) (r.num + s.num).natAbs 1 = addQ r s := by
  unfold lowQ addQ
  rw [if_neg (by decide), sgn_z, add_one h h']

end Go.Proofs.Ytjcbaiphkchehaa

namespace Go.Proofs.Ytjcbaiphkchehaa
open Go.ChangeShapes Go.WideShapes Go.ChangeAt Go.RowKit
open Go.ChangeMaps (open_string shut_string)
set_option linter.unusedVariables false
set_option linter.unusedSimpArgs false
set_option maxRecDepth 4000

attribute [local go_sem ↓] Go.wp_at_zero Go.wp_at_succ

end Go.Proofs.Ytjcbaiphkchehaa

