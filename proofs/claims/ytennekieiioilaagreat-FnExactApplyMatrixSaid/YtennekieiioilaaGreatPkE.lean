/-
  Fractions of the model: 'l04One', 'RatOk'.
-/
import Derived.Test.YtennekieiioilaaGreatPkD
import Derived.Test.YtennekieiioilaaGreatPkB
import Derived.Deep.RegionHeld3
import Derived.Deep.DrawnRows
import Derived.Deep.DeepCutAuto
namespace Go.Proofs.YtennekieiioilaaGreat
open Go.ChangeShapes Go.WideShapes Go.ChangeAt Go.RowKit
open Go.ChangeMaps (open_string shut_string)
set_option linter.unusedVariables false
set_option linter.unusedSimpArgs false
set_option maxRecDepth 4000

set_option maxHeartbeats 400000 in
theorem one_any (l : List Int) (A : Option Addr) (n c : Nat) (w : World) (hl : l.length = n) (hn : n ≤ 9223372036854775807) (hA : RdS w A (vi l)) :
    Calls Tryz.prog 103 #[.slice A n c] w fun e w' => e = .returned (.bool (decide (l = [1]))) ∧ Below w.heap.size w w' := by
  by_cases h1 : n = 1
  · subst h1
    obtain ⟨x, rfl⟩ : ∃ x, l = [x] := by
      match l, hl with
      | [x], _ => exact ⟨x, rfl⟩
    obtain ⟨b1, o1, rfl, hb1, e1⟩ := hA.int (k := 0) (x := x) rfl
    rw [Nat.add_zero] at e1
    clear hA
    have hq : decide ([x] = [1]) = (x == 1) := by by_cases h : x = 1 <;> simp [h]
    rw [hq]
    go_enter Tryz.func103, Tryz.ntmps103
    go_wp2
    go_ret
    exact ⟨rfl, Below.refl _ _⟩
  · have hq : decide (l = [1]) = false := decide_eq_false (fun h => h1 (by rw [← hl, h]; rfl))
    rw [hq]
    have hz : ((n : Int) == 1) = false := by rw [beq_eq_false_iff_ne]; omega
    clear hA hl
    go_enter Tryz.func103, Tryz.ntmps103
    go_wp2
    go_ret
    exact ⟨rfl, Below.refl _ _⟩

set_option maxHeartbeats 1000000 in
theorem rok_b (p : Bool) (l m : List Int) (A D : Option Addr) (n c k d : Nat) (w : World) (hl : l.length = n) (hm : m.length = k) (hn : n ≤ 9223372036854775807) (hk : k ≤ 9223372036854775807) (hb : okB p l = false) (hA : RdS w A (vi l)) (hD : RdS w D (vi m)) :
    Calls Tryz.prog 76 #[.agg #[.bool p, .slice A n c, .slice D k d]] w fun e w' => e = .returned (.bool (false)) ∧ Below w.heap.size w w' := by
  have HB := Lib.hid (fun W h => spec_bok p l A n c W hl hn h)
  rw [hb] at HB
  clear hl hm hb
  go_enter Tryz.func76, Tryz.ntmps76
  go_wp2_with fail
  have kb := ba1 w (.cells #[.bool p, .slice A n c, .slice D k d] 30)
  have P := heap_alloc_new w (.cells #[.bool p, .slice A n c, .slice D k d] 30)
  generalize w.alloc (.cells #[.bool p, .slice A n c, .slice D k d] 30) = W1 at kb P ⊢
  have p0 : W1.cell? ⟨w.heap.size, 0, none⟩ = some (.bool p) := rblk_cell P 0
  have p1 : W1.cell? ⟨w.heap.size, 1, none⟩ = some (.slice A n c) := rblk_cell P 1
  refine (HB.out _ (hA.below kb)).mono ?_
  rintro e W2 ⟨rfl, hb⟩
  clear p0 p1
  replace P := rblk_below P hb
  replace kb := bt kb hb
  clear hb
  have p1 : W2.cell? ⟨w.heap.size, 1, none⟩ = some (.slice A n c) := rblk_cell P 1
  have p2 : W2.cell? ⟨w.heap.size, 2, none⟩ = some (.slice D k d) := rblk_cell P 2
  go_wp2
  go_ret
  exact ⟨rfl, kb⟩

set_option maxHeartbeats 1000000 in
theorem rok_o (p : Bool) (l m : List Int) (A D : Option Addr) (n c k d : Nat) (w : World) (hl : l.length = n) (hm : m.length = k) (hn : n ≤ 9223372036854775807) (hk : k ≤ 9223372036854775807) (hb : okB p l = true) (ho : ok m = false) (hA : RdS w A (vi l)) (hD : RdS w D (vi m)) :
    Calls Tryz.prog 76 #[.agg #[.bool p, .slice A n c, .slice D k d]] w fun e w' => e = .returned (.bool (false)) ∧ Below w.heap.size w w' := by
  have HB := Lib.hid (fun W h => spec_bok p l A n c W hl hn h)
  have HO := Lib.hid (fun W h => spec_ok m D k d W hm hk h)
  rw [hb] at HB
  rw [ho] at HO
  clear hl hm hb ho
  go_enter Tryz.func76, Tryz.ntmps76
  go_wp2_with fail
  have kb := ba1 w (.cells #[.bool p, .slice A n c, .slice D k d] 30)
  have P := heap_alloc_new w (.cells #[.bool p, .slice A n c, .slice D k d] 30)
  generalize w.alloc (.cells #[.bool p, .slice A n c, .slice D k d] 30) = W1 at kb P ⊢
  have p0 : W1.cell? ⟨w.heap.size, 0, none⟩ = some (.bool p) := rblk_cell P 0
  have p1 : W1.cell? ⟨w.heap.size, 1, none⟩ = some (.slice A n c) := rblk_cell P 1
  refine (HB.out _ (hA.below kb)).mono ?_
  rintro e W2 ⟨rfl, hb⟩
  clear p0 p1
  replace P := rblk_below P hb
  replace kb := bt kb hb
  clear hb
  have p1 : W2.cell? ⟨w.heap.size, 1, none⟩ = some (.slice A n c) := rblk_cell P 1
  have p2 : W2.cell? ⟨w.heap.size, 2, none⟩ = some (.slice D k d) := rblk_cell P 2
  go_wp2_with fail
  refine (HO.out _ (hD.below kb)).mono ?_
  rintro e W3 ⟨rfl, rfl⟩
  go_wp2
  go_ret
  exact ⟨rfl, kb⟩

set_option maxHeartbeats 1000000 in
theorem rok_k (p : Bool) (l m : List Int) (A D : Option Addr) (n c k d : Nat) (w : World) (hl : l.length = n) (hm : m.length = k) (hn : n ≤ 9223372036854775807) (hk : k ≤ 9223372036854775807) (hb : okB p l = true) (ho : ok m = true) (hk2 : k = 0 ∨ 24 < k ∨ 24 < n) (hA : RdS w A (vi l)) (hD : RdS w D (vi m)) :
    Calls Tryz.prog 76 #[.agg #[.bool p, .slice A n c, .slice D k d]] w fun e w' => e = .returned (.bool (false)) ∧ Below w.heap.size w w' := by
  have HB := Lib.hid (fun W h => spec_bok p l A n c W hl hn h)
  have HO := Lib.hid (fun W h => spec_ok m D k d W hm hk h)
  rw [hb] at HB
  rw [ho] at HO
  clear hl hm hb ho
  go_enter Tryz.func76, Tryz.ntmps76
  go_wp2_with fail
  have kb := ba1 w (.cells #[.bool p, .slice A n c, .slice D k d] 30)
  have P := heap_alloc_new w (.cells #[.bool p, .slice A n c, .slice D k d] 30)
  generalize w.alloc (.cells #[.bool p, .slice A n c, .slice D k d] 30) = W1 at kb P ⊢
  have p0 : W1.cell? ⟨w.heap.size, 0, none⟩ = some (.bool p) := rblk_cell P 0
  have p1 : W1.cell? ⟨w.heap.size, 1, none⟩ = some (.slice A n c) := rblk_cell P 1
  refine (HB.out _ (hA.below kb)).mono ?_
  rintro e W2 ⟨rfl, hb⟩
  clear p0 p1
  replace P := rblk_below P hb
  replace kb := bt kb hb
  clear hb
  have p1 : W2.cell? ⟨w.heap.size, 1, none⟩ = some (.slice A n c) := rblk_cell P 1
  have p2 : W2.cell? ⟨w.heap.size, 2, none⟩ = some (.slice D k d) := rblk_cell P 2
  go_wp2_with fail
  refine (HO.out _ (hD.below kb)).mono ?_
  rintro e W3 ⟨rfl, rfl⟩
  by_cases h1 : k = 0
  · subst h1
    go_wp2
    go_ret
    exact ⟨rfl, kb⟩
  · by_cases h2 : 24 < k
    · have h2' : (24 : Int) < (k : Int) := by omega
      go_wp2
      go_ret
      exact ⟨rfl, kb⟩
    · have h2' : ¬ (24 : Int) < (k : Int) := by omega
      have h3 : (24 : Int) < (n : Int) := by omega
      go_wp2
      go_ret
      exact ⟨rfl, kb⟩

set_option maxHeartbeats 1000000 in
theorem rok_g (p : Bool) (l m : List Int) (A D : Option Addr) (n c k d : Nat) (w : World) (hl : l.length = n) (hm : m.length = k) (hn : n ≤ 9223372036854775807) (hk : k ≤ 9223372036854775807) (z b : Nat) (hz : l = nd z) (hbb : m = nd b) (hb : okB p l = true) (ho : ok m = true) (hk1 : 0 < k) (hk2 : k ≤ 24) (hn2 : n ≤ 24) (hA : RdS w A (vi l)) (hD : RdS w D (vi m)) :
    Calls Tryz.prog 76 #[.agg #[.bool p, .slice A n c, .slice D k d]] w fun e w' => e = .returned (.bool (decide (Nat.gcd z b = 1))) ∧ Below w.heap.size w w' := by
  have HB := Lib.hid (fun W h => spec_bok p l A n c W hl hn h)
  have HO := Lib.hid (fun W h => spec_ok m D k d W hm hk h)
  rw [hb] at HB
  rw [ho] at HO
  have hzn : ln z = n := by rw [← nd_length, ← hz, hl]
  have hbk : ln b = k := by rw [← nd_length, ← hbb, hm]
  have HG := Lib.hid (fun W h h' => spec_gcd_rd z b A D n c k d W hzn hbk (by omega) (by omega) h h')
  rw [← hz, ← hbb] at HG
  have hgl : (nd (Nat.gcd z b)).length ≤ 9223372036854775807 := by
    rw [nd_length]
    have hb0 : 0 < b := by rcases Nat.eq_zero_or_pos b with h | h; (subst h; rw [ln_zero] at hbk; omega); exact h
    have := ln_mono (Nat.le_of_dvd hb0 (Nat.gcd_dvd_right z b)); omega
  have hq : decide (Nat.gcd z b = 1) = decide (nd (Nat.gcd z b) = [1]) := by
    have e1 : nd 1 = [1] := by unfold nd; rw [ln_pos (by decide), show 1 / 1000000000 = 0 by decide, ln_zero]; decide
    by_cases h : Nat.gcd z b = 1
    · rw [decide_eq_true h, decide_eq_true (show nd (Nat.gcd z b) = [1] by rw [h, e1])]
    · rw [decide_eq_false h, decide_eq_false (fun e => h (nd_inj (by rw [e, e1])))]
  rw [hq]
  generalize nd (Nat.gcd z b) = G at HG hgl ⊢
  have H1 := Lib.hid (fun A' c' W h => one_any G A' _ c' W rfl hgl h)
  have h1 : ¬ (k : Int) = 0 := by omega
  have h1' : ((k : Int) == 0) = false := by rw [beq_eq_false_iff_ne]; exact h1
  have h2 : ¬ (24 : Int) < (k : Int) := by omega
  have h3 : ¬ (24 : Int) < (n : Int) := by omega
  clear hq hgl hzn hbk hz hbb hl hm hb ho
  go_enter Tryz.func76, Tryz.ntmps76
  go_wp2_with fail
  have kb := ba1 w (.cells #[.bool p, .slice A n c, .slice D k d] 30)
  have P := heap_alloc_new w (.cells #[.bool p, .slice A n c, .slice D k d] 30)
  generalize w.alloc (.cells #[.bool p, .slice A n c, .slice D k d] 30) = W1 at kb P ⊢
  have p0 : W1.cell? ⟨w.heap.size, 0, none⟩ = some (.bool p) := rblk_cell P 0
  have p1 : W1.cell? ⟨w.heap.size, 1, none⟩ = some (.slice A n c) := rblk_cell P 1
  refine (HB.out _ (hA.below kb)).mono ?_
  rintro e W2 ⟨rfl, hb⟩
  clear p0 p1
  replace P := rblk_below P hb
  replace kb := bt kb hb
  clear hb
  have p1 : W2.cell? ⟨w.heap.size, 1, none⟩ = some (.slice A n c) := rblk_cell P 1
  have p2 : W2.cell? ⟨w.heap.size, 2, none⟩ = some (.slice D k d) := rblk_cell P 2
  go_wp2_with fail
  refine (HO.out _ (hD.below kb)).mono ?_
  rintro e W3 ⟨rfl, rfl⟩
  go_wp2_with fail
  refine (HG.out _ (hA.below kb) (hD.below kb)).mono ?_
  rintro e W4 ⟨A5, c5, rfl, o5, hb⟩
  clear p1 p2
  replace kb := bt kb hb
  go_wp2_with fail
  refine (H1.out _ _ _ o5.rd).mono ?_
  rintro e W5 ⟨rfl, hb⟩
  replace kb := bt kb hb
  go_wp2
  go_ret
  exact ⟨rfl, kb⟩

/-- 'RatOk' of the model. -/
theorem spec_rok (p : Bool) (l m : List Int) (A D : Option Addr) (n c k d : Nat) (w : World) (hl : l.length = n) (hm : m.length = k) (hn : n ≤ 9223372036854775807) (hk : k ≤ 9223372036854775807) (hA : RdS w A (vi l)) (hD : RdS w D (vi m)) :
    Calls Tryz.prog 76 #[.agg #[.bool p, .slice A n c, .slice D k d]] w fun e w' => e = .returned (.bool (okR p l m)) ∧ Below w.heap.size w w' := by
  by_cases h1 : okB p l = true
  · by_cases h2 : ok m = true
    · by_cases h3 : k = 0 ∨ 24 < k ∨ 24 < n
      · have e : okR p l m = false := by
          unfold okR
          rcases h3 with h | h | h
          · rw [decide_eq_false (show ¬ m ≠ [] from fun h0 => h0 (List.eq_nil_of_length_eq_zero (by omega)))]; simp
          · rw [decide_eq_false (show ¬ m.length ≤ 24 by omega)]; simp
          · rw [decide_eq_false (show ¬ l.length ≤ 24 by omega)]; simp
        rw [e]
        exact rok_k p l m A D n c k d w hl hm hn hk h1 h2 h3 hA hD
      · obtain ⟨z, _, hz, _⟩ := okB_z h1
        obtain ⟨b, hb, _⟩ := ok_nd h2
        have hm0 : m ≠ [] := fun e => by rw [e] at hm; simp at hm; omega
        have e : okR p l m = decide (Nat.gcd z.natAbs b = 1) := by
          unfold okR
          rw [h1, h2, decide_eq_true hm0, decide_eq_true (show m.length ≤ 24 by omega), decide_eq_true (show l.length ≤ 24 by omega), hz, hb, val_zm, val_nd]
          simp
        rw [e]
        exact rok_g p l m A D n c k d w hl hm hn hk z.natAbs b hz hb h1 h2 (by omega) (by omega) (by omega) hA hD
    · have h2' : ok m = false := by simpa using h2
      have e : okR p l m = false := by unfold okR; rw [h2']; simp
      rw [e]
      exact rok_o p l m A D n c k d w hl hm hn hk h1 h2' hA hD
  · have h1' : okB p l = false := by simpa using h1
    have e : okR p l m = false := by unfold okR; rw [h1']; simp
    rw [e]
    exact rok_b p l m A D n c k d w hl hm hn hk h1' hA hD
end Go.Proofs.YtennekieiioilaaGreat

namespace Go.Proofs.YtennekieiioilaaGreat
open Go.ChangeShapes Go.WideShapes Go.ChangeAt Go.RowKit
open Go.ChangeMaps (open_string shut_string)
set_option linter.unusedVariables false
set_option linter.unusedSimpArgs false
set_option maxRecDepth 4000

set_option maxHeartbeats 400000 in
/-- 'l02Trim' cuts a row that is read where it lies. -/
theorem trim_rr (n c T : Nat) (A : Option Addr) (w : World) (ho : RdS w A (vi (row n T))) (hT : ln T ≤ n) (hc : n ≤ c) (hn : n ≤ 1048576) :
    Calls Tryz.prog 135 #[.slice A n c] w fun e w' => e = .returned (.slice A (ln T) c) ∧ w = w' := by
  by_cases h0 : n = 0
  · subst h0
    have hz : Hid (ln T = 0) := Lib.hid (by omega)
    clear ho hT
    cases A with
    | none =>
      go_enter Tryz.func135, Tryz.ntmps135
      go_wp2
      go_loop [3] (fun i => i = .int .i64 0) (fun i => 0)
      case atStart => exact rfl
      case round =>
        obtain rfl := hrel
        go_wp2
        go_ret
        exact ⟨by rw [hz.out]; rfl, rfl⟩
    | some ad =>
      go_enter Tryz.func135, Tryz.ntmps135
      go_wp2
      go_loop [3] (fun i => i = .int .i64 0) (fun i => 0)
      case atStart => exact rfl
      case round =>
        obtain rfl := hrel
        go_wp2
        go_ret
        exact ⟨by rw [hz.out]; rfl, rfl⟩
  · obtain ⟨g, off, rfl, hgw, hcell⟩ := ho.block (by rw [vi_length, row_length]; omega)
    have hrd := ho
    clear ho hcell
    go_enter Tryz.func135, Tryz.ntmps135
    go_wp2
    go_loop [3] (fun i => ∃ k : Nat, k ≤ n ∧ ln T ≤ k ∧ i = .int .i64 (k : Int)) (fun i => (intOf i).toNat)
    case atStart => exact ⟨n, Nat.le_refl _, hT, rfl⟩
    case round =>
      obtain ⟨k, hk, hTk, rfl⟩ := hrel
      by_cases hz : 0 < k ∧ dgt T (k - 1) = 0
      · have hc1 := hrd.int_at (row_get (n := n) (i := k - 1) T (by omega))
        have h2 := trim_step hz.1 hTk hz.2
        have hp := hz.1
        rw [hz.2] at hc1
        have hk1 : ((k : Int) - 1) = ((k - 1 : Nat) : Int) := by omega
        have hk0 : (0 : Int) ≤ (k : Int) - 1 := by omega
        have hk2 : (k : Int) - 1 < (n : Int) := by omega
        have hkt : ((k : Int) - 1).toNat = k - 1 := by omega
        clear hz
        go_wp2
        go_round
        case rel => exact ⟨k - 1, by omega, h2, by go_num⟩
        case measure => simp [intOf]; omega
      · have hkT : Hid (ln T = k) := by
          refine Lib.hid ?_
          by_cases h0 : 0 < k
          · exact trim_stop h0 hTk (fun e => hz ⟨h0, e⟩)
          · omega
        by_cases h0 : 0 < k
        · have hc1 := hrd.int_at (row_get (n := n) (i := k - 1) T (by omega))
          have hne : dgt T (k - 1) ≠ 0 := fun e => hz ⟨h0, e⟩
          have hk1 : ((k : Int) - 1) = ((k - 1 : Nat) : Int) := by omega
          clear hz
          generalize dgt T (k - 1) = x at hc1 hne
          have q : (x == 0) = false := by rw [beq_eq_false_iff_ne]; exact hne
          go_wp2
          go_ret
          exact ⟨by rw [hkT.out]; rfl, rfl⟩
        · obtain rfl : k = 0 := by omega
          go_wp2
          go_ret
          exact ⟨by rw [hkT.out]; rfl, rfl⟩

theorem RdS.take {w : World} {A : Option Addr} {l : List Value} (h : RdS w A l) (k : Nat) : RdS w A (l.take k) := by
  rcases h with h | ⟨b, off, ha, hb, hc⟩
  · exact .inl (by rw [h, List.take_nil])
  · refine .inr ⟨b, off, ha, hb, fun j hj => ?_⟩
    rw [List.length_take] at hj
    rw [hc j (by omega), List.getElem?_take, if_pos (by omega)]
theorem row_val_ex (T : Nat) {n : Nat} {w : World} {A : Option Addr} (h : RdS w A (vi (row n T))) (hT : ln T ≤ n) : RdS w A (vi (nd T)) := by
  have h2 := RdS.take h (ln T)
  rw [← vi_take, row_take _ hT] at h2
  exact h2

set_option maxHeartbeats 1000000 in
theorem low_zero (s : Bool) (a b : Nat) (A D : Option Addr) (n c k d : Nat) (w : World) (ha : ln a ≤ n) (hb : ln b ≤ k) (hn : n ≤ 60) (hk : k ≤ 60) (hb0 : b = 0) (hcA : n ≤ c) (hcD : k ≤ d) (hA : RdS w A (vi (row n a))) (hD : RdS w D (vi (row k b))) :
    Calls Tryz.prog 113 #[.bool s, .slice A n c, .slice D k d] w (MadeR w.heap.size false [] [] w) := by
  have TA := Lib.hid (fun W h => trim_rr n c a A W h ha hcA (by omega))
  have TB := Lib.hid (fun W h => trim_rr k d b D W h hb hcD (by omega))
  have hz : ln b = 0 := by rw [hb0, ln_zero]
  rw [hz] at TB
  clear ha hb hn hk hb0 hz
  go_enter Tryz.func113, Tryz.ntmps113
  go_wp2_with fail
  refine (TA.out _ (hA.below (ba1 _ _))).mono ?_
  rintro e w1 ⟨rfl, rfl⟩
  go_wp2_with fail
  refine (TB.out _ (hD.below (ba1 _ _))).mono ?_
  rintro e w1 ⟨rfl, rfl⟩
  have kb := ba1 w (.cells #[.bool false, .slice none 0 0, .slice none 0 0] 30)
  have P := heap_alloc_new w (.cells #[.bool false, .slice none 0 0, .slice none 0 0] 30)
  generalize w.alloc (.cells #[.bool false, .slice none 0 0, .slice none 0 0] 30) = W1 at kb P ⊢
  have r0 : W1.cell? ⟨w.heap.size, 0, none⟩ = some (.bool false) := rblk_cell P 0
  have r1 : W1.cell? ⟨w.heap.size, 1, none⟩ = some (.slice none 0 0) := rblk_cell P 1
  have r2 : W1.cell? ⟨w.heap.size, 2, none⟩ = some (.slice none 0 0) := rblk_cell P 2
  have s0 := rblk_free P 0
  have s1 := rblk_free P 1
  have s2 := rblk_free P 2
  go_wp2
  exact bodyPost_ret (v := .agg #[.bool false, .slice none 0 0, .slice none 0 0]) (by simp [results, Tryz.results113, go_sem, r0, r1, r2]) rfl ⟨none, 0, none, 0, rfl, Nat.le_refl _, Nat.le_refl _, .inl rfl, .inl rfl, (fun a h => by simp [rowOf] at h), below_put (below_put (below_put kb (by omega) _) (by omega) _) (by omega) _⟩

-- GEN BELOW
theorem nd_one : nd 1 = [1] := by unfold nd; rw [ln_pos (by decide), show 1 / 1000000000 = 0 by decide, ln_zero]; decide
set_option maxHeartbeats 1000000 in
theorem low_one_fit (s : Bool) (a b : Nat) (A D : Option Addr) (n c k d : Nat) (w : World) (ha : ln a ≤ n) (hb : ln b ≤ k) (hn : n ≤ 60) (hk : k ≤ 60) (hb0 : 0 < b) (hb1 : b = 1) (hg : Nat.gcd a b = 1) (h24 : ln a ≤ 24 ∧ ln b ≤ 24) (hcA : n ≤ c) (hcD : k ≤ d) (hA : RdS w A (vi (row n a))) (hD : RdS w D (vi (row k b))) :
    Calls Tryz.prog 113 #[.bool s, .slice A n c, .slice D k d] w (MadeR w.heap.size (s && decide (nd a ≠ [])) (nd a) (nd b) w) := by
  have TA := Lib.hid (fun W h => trim_rr n c a A W h ha hcA (by omega))
  have TB := Lib.hid (fun W h => trim_rr k d b D W h hb hcD (by omega))
  have RD := row_val_ex b hD hb
  have RA := row_val_ex a hA ha
  have hlb : 0 < ln b := by rw [ln_pos hb0]; omega
  have hbl : (nd b).length = ln b := nd_length b
  have hz0 : ((ln b : Int) == 0) = false := by rw [beq_eq_false_iff_ne]; omega
  have hz1 : ¬ (ln b : Int) = 0 := by omega
  have HO := Lib.hid (fun W (h : RdS W D (vi (nd b))) => one_any (nd b) D (ln b) d W hbl (by omega) h)
  rw [show decide (nd b = [1]) = true from decide_eq_true (by rw [hb1, nd_one])] at HO
  have hlx : (nd a).length = ln a := nd_length _
  have hly : (nd b).length = ln b := nd_length _
  have HMk := Lib.hid (fun W A' c' (hc : (nd a).length ≤ c') (h : RdS W A' (vi (nd a))) => make_rd s a (nd a).length c' A' W (nd_length _).symm (by omega) hc h)
  rw [cap60_yes' (show ln a ≤ 60 by omega)] at HMk
  have hcx : (nd a).length ≤ c := by omega
  have k1 : ¬ (24 : Int) < (((nd a).length : Nat) : Int) := by omega
  have k2 : ¬ (24 : Int) < (((nd b).length : Nat) : Int) := by omega
  have k3 : (nd b).length ≤ 1048576 := by omega
  have nA : (nd a).length = ln a := nd_length a
  rw [← nA] at TA
  rw [← hbl] at TB HO hz0 hz1
  clear ha hb hn hk h24 hcA hcD hb0 hb1 hg hlb hbl hlx hly nA
  generalize nd a = LA at TA RA hcx k1 HMk ⊢
  generalize nd b = LB at TB RD HO hz0 hz1 k1 k2 k3 ⊢
  generalize (s && decide (LA ≠ [])) = sg at HMk ⊢
  go_enter Tryz.func113, Tryz.ntmps113
  go_wp2_with fail
  have kb := ba1 w (.cells #[.bool false, .slice none 0 0, .slice none 0 0] 30)
  have P := heap_alloc_new w (.cells #[.bool false, .slice none 0 0, .slice none 0 0] 30)
  generalize w.alloc (.cells #[.bool false, .slice none 0 0, .slice none 0 0] 30) = W1 at kb P ⊢
  refine (TA.out _ (hA.below kb)).mono ?_
  rintro e w1 ⟨rfl, rfl⟩
  go_wp2_with fail
  refine (TB.out _ (hD.below kb)).mono ?_
  rintro e w1 ⟨rfl, rfl⟩
  go_wp2_with fail
  refine (HO.out _ (RD.below kb)).mono ?_
  rintro e w2 ⟨rfl, hb⟩
  replace P := rblk_below P hb
  replace kb := bt kb hb
  clear hb
  go_wp2_with fail
  have hlt2 := rblk_lt P
  refine (HMk.out _ _ _ hcx (RA.below kb)).mono ?_
  rintro e w3 ⟨A3, c3, rfl, hc3, o3, hb⟩
  replace P := rblk_below P hb
  replace kb := bt kb hb
  clear hb
  have hlt3 := rblk_lt P
  have hs0 : (w3.alloc (.cells #[] 3)).ownsRow w3.heap.size 3 1 (.slice (some ⟨w3.heap.size, 0, none⟩) 0 0) 0 (vi []) := World.ownsRow_made w3 #[] 0 (by omega) (by simp [maxLen]) rfl
  have RY := ((RD.below kb)).below (ba1 w3 (.cells #[] 3))
  go_wp2_with (at_builtin; refine append_rd rfl (.tmp 51) (.tmp 52) rfl w3.heap.size 0 LB.length d _ [] LB D (w3.alloc (.cells #[] 3)) rfl rfl hs0 (by omega) k3 rfl RY (by simp) ?_; intro v1 w4 hown hb4 hsz4; refine cut_here ?_)
  have hb34 : Below w3.heap.size w3 w4 := (ba1 w3 (.cells #[] 3)).trans hb4
  clear hb4 hsz4 hs0 RY
  rw [Nat.zero_add, List.nil_append] at hown
  obtain ⟨A4, c4, hv4, hcc4, _, _⟩ := own_len hown
  subst hv4
  have o4 := OwnS.of_own hown
  clear hown
  replace P := rblk_below P hb34
  replace kb := bt kb hb34
  have i3 := o3.inR (vi_length LA)
  have i4 := o4.inR (vi_length LB)
  have hap : Apart LA.length A3 LB.length A4 := i3.apart i4 (.inl (Nat.le_refl _))
  replace o3 := o3.below hb34
  have r0 : w4.cell? ⟨w.heap.size, 0, none⟩ = some (.bool false) := rblk_cell P 0
  have r1 : w4.cell? ⟨w.heap.size, 1, none⟩ = some (.slice none 0 0) := rblk_cell P 1
  have r2 : w4.cell? ⟨w.heap.size, 2, none⟩ = some (.slice none 0 0) := rblk_cell P 2
  have s0 := rblk_free P 0
  have s1 := rblk_free P 1
  have s2 := rblk_free P 2
  refine Cut.of ?_
  go_wp2
  exact bodyPost_ret (v := .agg #[.bool sg, .slice A3 LA.length c3, .slice A4 LB.length c4]) (by simp [results, Tryz.results113, go_sem, r0, r1, r2]) rfl ⟨A3, c3, A4, c4, rfl, hc3, hcc4, (((o3.put (by omega) _).put (by omega) _).put (by omega) _).more (by omega), (((o4.put (by omega) _).put (by omega) _).put (by omega) _).more (by omega), hap, below_put (below_put (below_put kb (by omega) _) (by omega) _) (by omega) _⟩

set_option maxHeartbeats 1000000 in
theorem low_one_big (s : Bool) (a b : Nat) (A D : Option Addr) (n c k d : Nat) (w : World) (ha : ln a ≤ n) (hb : ln b ≤ k) (hn : n ≤ 60) (hk : k ≤ 60) (hb0 : 0 < b) (hb1 : b = 1) (hg : Nat.gcd a b = 1) (h24 : ¬ (ln a ≤ 24 ∧ ln b ≤ 24)) (hcA : n ≤ c) (hcD : k ≤ d) (hA : RdS w A (vi (row n a))) (hD : RdS w D (vi (row k b))) :
    Calls Tryz.prog 113 #[.bool s, .slice A n c, .slice D k d] w (MadeR w.heap.size false [] [] w) := by
  have TA := Lib.hid (fun W h => trim_rr n c a A W h ha hcA (by omega))
  have TB := Lib.hid (fun W h => trim_rr k d b D W h hb hcD (by omega))
  have RD := row_val_ex b hD hb
  have RA := row_val_ex a hA ha
  have hlb : 0 < ln b := by rw [ln_pos hb0]; omega
  have hbl : (nd b).length = ln b := nd_length b
  have hz0 : ((ln b : Int) == 0) = false := by rw [beq_eq_false_iff_ne]; omega
  have hz1 : ¬ (ln b : Int) = 0 := by omega
  have HO := Lib.hid (fun W (h : RdS W D (vi (nd b))) => one_any (nd b) D (ln b) d W hbl (by omega) h)
  rw [show decide (nd b = [1]) = true from decide_eq_true (by rw [hb1, nd_one])] at HO
  have hlx : (nd a).length = ln a := nd_length _
  have hly : (nd b).length = ln b := nd_length _
  have hcx : (nd a).length ≤ c := by omega
  have k1 : (24 : Int) < (((nd a).length : Nat) : Int) ∨ (24 : Int) < (((nd b).length : Nat) : Int) := by omega
  have nA : (nd a).length = ln a := nd_length a
  rw [← nA] at TA
  rw [← hbl] at TB HO hz0 hz1
  clear ha hb hn hk h24 hcA hcD hb0 hb1 hg hlb hbl hlx hly nA
  generalize nd a = LA at TA RA hcx k1
  generalize nd b = LB at TB RD HO hz0 hz1 k1
  go_enter Tryz.func113, Tryz.ntmps113
  go_wp2_with fail
  have kb := ba1 w (.cells #[.bool false, .slice none 0 0, .slice none 0 0] 30)
  have P := heap_alloc_new w (.cells #[.bool false, .slice none 0 0, .slice none 0 0] 30)
  generalize w.alloc (.cells #[.bool false, .slice none 0 0, .slice none 0 0] 30) = W1 at kb P ⊢
  refine (TA.out _ (hA.below kb)).mono ?_
  rintro e w1 ⟨rfl, rfl⟩
  go_wp2_with fail
  refine (TB.out _ (hD.below kb)).mono ?_
  rintro e w1 ⟨rfl, rfl⟩
  go_wp2_with fail
  refine (HO.out _ (RD.below kb)).mono ?_
  rintro e w2 ⟨rfl, hb⟩
  replace P := rblk_below P hb
  replace kb := bt kb hb
  clear hb
  have r0 : w2.cell? ⟨w.heap.size, 0, none⟩ = some (.bool false) := rblk_cell P 0
  have r1 : w2.cell? ⟨w.heap.size, 1, none⟩ = some (.slice none 0 0) := rblk_cell P 1
  have r2 : w2.cell? ⟨w.heap.size, 2, none⟩ = some (.slice none 0 0) := rblk_cell P 2
  have s0 := rblk_free P 0
  have s1 := rblk_free P 1
  have s2 := rblk_free P 2
  by_cases k0 : (24 : Int) < (((LA).length : Nat) : Int)
  · clear k1
    go_wp2
    exact bodyPost_ret (v := .agg #[.bool false, .slice none 0 0, .slice none 0 0]) (by simp [results, Tryz.results113, go_sem, r0, r1, r2]) rfl ⟨none, 0, none, 0, rfl, Nat.le_refl _, Nat.le_refl _, .inl rfl, .inl rfl, (fun a h => by simp [rowOf] at h), below_put (below_put (below_put kb (by omega) _) (by omega) _) (by omega) _⟩
  · have k2 : (24 : Int) < (((LB).length : Nat) : Int) := by omega
    clear k1
    go_wp2
    exact bodyPost_ret (v := .agg #[.bool false, .slice none 0 0, .slice none 0 0]) (by simp [results, Tryz.results113, go_sem, r0, r1, r2]) rfl ⟨none, 0, none, 0, rfl, Nat.le_refl _, Nat.le_refl _, .inl rfl, .inl rfl, (fun a h => by simp [rowOf] at h), below_put (below_put (below_put kb (by omega) _) (by omega) _) (by omega) _⟩

set_option maxHeartbeats 1000000 in
theorem low_g1_fit (s : Bool) (a b : Nat) (A D : Option Addr) (n c k d : Nat) (w : World) (ha : ln a ≤ n) (hb : ln b ≤ k) (hn : n ≤ 60) (hk : k ≤ 60) (hb0 : 0 < b) (hb1 : b ≠ 1) (hg : Nat.gcd a b = 1) (h24 : ln a ≤ 24 ∧ ln b ≤ 24) (hcA : n ≤ c) (hcD : k ≤ d) (hA : RdS w A (vi (row n a))) (hD : RdS w D (vi (row k b))) :
    Calls Tryz.prog 113 #[.bool s, .slice A n c, .slice D k d] w (MadeR w.heap.size (s && decide (nd a ≠ [])) (nd a) (nd b) w) := by
  have TA := Lib.hid (fun W h => trim_rr n c a A W h ha hcA (by omega))
  have TB := Lib.hid (fun W h => trim_rr k d b D W h hb hcD (by omega))
  have RD := row_val_ex b hD hb
  have RA := row_val_ex a hA ha
  have hlb : 0 < ln b := by rw [ln_pos hb0]; omega
  have hbl : (nd b).length = ln b := nd_length b
  have hz0 : ((ln b : Int) == 0) = false := by rw [beq_eq_false_iff_ne]; omega
  have hz1 : ¬ (ln b : Int) = 0 := by omega
  have HO := Lib.hid (fun W (h : RdS W D (vi (nd b))) => one_any (nd b) D (ln b) d W hbl (by omega) h)
  rw [show decide (nd b = [1]) = false from decide_eq_false (fun e => hb1 (nd_inj (by rw [e, nd_one])))] at HO
  have HG := Lib.hid (fun W h h' => spec_gcd_rd a b A D (ln a) c (ln b) d W rfl rfl (by omega) (by omega) h h')
  have hgp : 0 < Nat.gcd a b := Nat.gcd_pos_of_pos_right _ hb0
  have hgl : ln (Nat.gcd a b) ≤ 60 := by have := ln_mono (Nat.le_of_dvd hb0 (Nat.gcd_dvd_right a b)); omega
  have H1 := Lib.hid (fun A' c' W h => one_any (nd (Nat.gcd a b)) A' _ c' W rfl (by rw [nd_length]; omega) h)
  rw [show decide (nd (Nat.gcd a b) = [1]) = true from decide_eq_true (by rw [hg, nd_one])] at H1
  have hlx : (nd a).length = ln a := nd_length _
  have hly : (nd b).length = ln b := nd_length _
  have HMk := Lib.hid (fun W A' c' (hc : (nd a).length ≤ c') (h : RdS W A' (vi (nd a))) => make_rd s a (nd a).length c' A' W (nd_length _).symm (by omega) hc h)
  rw [cap60_yes' (show ln a ≤ 60 by omega)] at HMk
  have hcx : (nd a).length ≤ c := by omega
  have k1 : ¬ (24 : Int) < (((nd a).length : Nat) : Int) := by omega
  have k2 : ¬ (24 : Int) < (((nd b).length : Nat) : Int) := by omega
  have k3 : (nd b).length ≤ 1048576 := by omega
  have nA : (nd a).length = ln a := nd_length a
  rw [← nA] at TA HG
  rw [← hbl] at TB HO hz0 hz1 HG
  clear ha hb hn hk h24 hcA hcD hb0 hb1 hg hlb hbl hlx hly nA hgp hgl
  generalize nd (Nat.gcd a b) = G at HG H1
  generalize nd a = LA at TA RA HG hcx k1 HMk ⊢
  generalize nd b = LB at TB RD HO hz0 hz1 HG k1 k2 k3 ⊢
  generalize (s && decide (LA ≠ [])) = sg at HMk ⊢
  go_enter Tryz.func113, Tryz.ntmps113
  go_wp2_with fail
  have kb := ba1 w (.cells #[.bool false, .slice none 0 0, .slice none 0 0] 30)
  have P := heap_alloc_new w (.cells #[.bool false, .slice none 0 0, .slice none 0 0] 30)
  generalize w.alloc (.cells #[.bool false, .slice none 0 0, .slice none 0 0] 30) = W1 at kb P ⊢
  refine (TA.out _ (hA.below kb)).mono ?_
  rintro e w1 ⟨rfl, rfl⟩
  go_wp2_with fail
  refine (TB.out _ (hD.below kb)).mono ?_
  rintro e w1 ⟨rfl, rfl⟩
  go_wp2_with fail
  refine (HO.out _ (RD.below kb)).mono ?_
  rintro e w2 ⟨rfl, hb⟩
  replace P := rblk_below P hb
  replace kb := bt kb hb
  clear hb
  go_wp2_with fail
  refine (HG.out _ (RA.below kb) (RD.below kb)).mono ?_
  rintro e w5 ⟨A5, c5, rfl, o5, hb⟩
  replace P := rblk_below P hb
  replace kb := bt kb hb
  clear hb
  go_wp2_with fail
  refine (H1.out _ _ _ o5.rd).mono ?_
  rintro e w6 ⟨rfl, hb⟩
  replace P := rblk_below P hb
  replace kb := bt kb hb
  replace o5 := o5.below hb
  clear hb
  go_wp2_with fail
  have hlt2 := rblk_lt P
  refine (HMk.out _ _ _ hcx (RA.below kb)).mono ?_
  rintro e w3 ⟨A3, c3, rfl, hc3, o3, hb⟩
  replace P := rblk_below P hb
  replace kb := bt kb hb
  clear hb
  have hlt3 := rblk_lt P
  have hs0 : (w3.alloc (.cells #[] 3)).ownsRow w3.heap.size 3 1 (.slice (some ⟨w3.heap.size, 0, none⟩) 0 0) 0 (vi []) := World.ownsRow_made w3 #[] 0 (by omega) (by simp [maxLen]) rfl
  have RY := ((RD.below kb)).below (ba1 w3 (.cells #[] 3))
  go_wp2_with (at_builtin; refine append_rd rfl (.tmp 51) (.tmp 52) rfl w3.heap.size 0 LB.length d _ [] LB D (w3.alloc (.cells #[] 3)) rfl rfl hs0 (by omega) k3 rfl RY (by simp) ?_; intro v1 w4 hown hb4 hsz4; refine cut_here ?_)
  have hb34 : Below w3.heap.size w3 w4 := (ba1 w3 (.cells #[] 3)).trans hb4
  clear hb4 hsz4 hs0 RY
  rw [Nat.zero_add, List.nil_append] at hown
  obtain ⟨A4, c4, hv4, hcc4, _, _⟩ := own_len hown
  subst hv4
  have o4 := OwnS.of_own hown
  clear hown
  replace P := rblk_below P hb34
  replace kb := bt kb hb34
  have i3 := o3.inR (vi_length LA)
  have i4 := o4.inR (vi_length LB)
  have hap : Apart LA.length A3 LB.length A4 := i3.apart i4 (.inl (Nat.le_refl _))
  replace o3 := o3.below hb34
  have r0 : w4.cell? ⟨w.heap.size, 0, none⟩ = some (.bool false) := rblk_cell P 0
  have r1 : w4.cell? ⟨w.heap.size, 1, none⟩ = some (.slice none 0 0) := rblk_cell P 1
  have r2 : w4.cell? ⟨w.heap.size, 2, none⟩ = some (.slice none 0 0) := rblk_cell P 2
  have s0 := rblk_free P 0
  have s1 := rblk_free P 1
  have s2 := rblk_free P 2
  refine Cut.of ?_
  go_wp2
  exact bodyPost_ret (v := .agg #[.bool sg, .slice A3 LA.length c3, .slice A4 LB.length c4]) (by simp [results, Tryz.results113, go_sem, r0, r1, r2]) rfl ⟨A3, c3, A4, c4, rfl, hc3, hcc4, (((o3.put (by omega) _).put (by omega) _).put (by omega) _).more (by omega), (((o4.put (by omega) _).put (by omega) _).put (by omega) _).more (by omega), hap, below_put (below_put (below_put kb (by omega) _) (by omega) _) (by omega) _⟩

set_option maxHeartbeats 1000000 in
theorem low_g1_big (s : Bool) (a b : Nat) (A D : Option Addr) (n c k d : Nat) (w : World) (ha : ln a ≤ n) (hb : ln b ≤ k) (hn : n ≤ 60) (hk : k ≤ 60) (hb0 : 0 < b) (hb1 : b ≠ 1) (hg : Nat.gcd a b = 1) (h24 : ¬ (ln a ≤ 24 ∧ ln b ≤ 24)) (hcA : n ≤ c) (hcD : k ≤ d) (hA : RdS w A (vi (row n a))) (hD : RdS w D (vi (row k b))) :
    Calls Tryz.prog 113 #[.bool s, .slice A n c, .slice D k d] w (MadeR w.heap.size false [] [] w) := by
  have TA := Lib.hid (fun W h => trim_rr n c a A W h ha hcA (by omega))
  have TB := Lib.hid (fun W h => trim_rr k d b D W h hb hcD (by omega))
  have RD := row_val_ex b hD hb
  have RA := row_val_ex a hA ha
  have hlb : 0 < ln b := by rw [ln_pos hb0]; omega
  have hbl : (nd b).length = ln b := nd_length b
  have hz0 : ((ln b : Int) == 0) = false := by rw [beq_eq_false_iff_ne]; omega
  have hz1 : ¬ (ln b : Int) = 0 := by omega
  have HO := Lib.hid (fun W (h : RdS W D (vi (nd b))) => one_any (nd b) D (ln b) d W hbl (by omega) h)
  rw [show decide (nd b = [1]) = false from decide_eq_false (fun e => hb1 (nd_inj (by rw [e, nd_one])))] at HO
  have HG := Lib.hid (fun W h h' => spec_gcd_rd a b A D (ln a) c (ln b) d W rfl rfl (by omega) (by omega) h h')
  have hgp : 0 < Nat.gcd a b := Nat.gcd_pos_of_pos_right _ hb0
  have hgl : ln (Nat.gcd a b) ≤ 60 := by have := ln_mono (Nat.le_of_dvd hb0 (Nat.gcd_dvd_right a b)); omega
  have H1 := Lib.hid (fun A' c' W h => one_any (nd (Nat.gcd a b)) A' _ c' W rfl (by rw [nd_length]; omega) h)
  rw [show decide (nd (Nat.gcd a b) = [1]) = true from decide_eq_true (by rw [hg, nd_one])] at H1
  have hlx : (nd a).length = ln a := nd_length _
  have hly : (nd b).length = ln b := nd_length _
  have hcx : (nd a).length ≤ c := by omega
  have k1 : (24 : Int) < (((nd a).length : Nat) : Int) ∨ (24 : Int) < (((nd b).length : Nat) : Int) := by omega
  have nA : (nd a).length = ln a := nd_length a
  rw [← nA] at TA HG
  rw [← hbl] at TB HO hz0 hz1 HG
  clear ha hb hn hk h24 hcA hcD hb0 hb1 hg hlb hbl hlx hly nA hgp hgl
  generalize nd (Nat.gcd a b) = G at HG H1
  generalize nd a = LA at TA RA HG hcx k1
  generalize nd b = LB at TB RD HO hz0 hz1 HG k1
  go_enter Tryz.func113, Tryz.ntmps113
  go_wp2_with fail
  have kb := ba1 w (.cells #[.bool false, .slice none 0 0, .slice none 0 0] 30)
  have P := heap_alloc_new w (.cells #[.bool false, .slice none 0 0, .slice none 0 0] 30)
  generalize w.alloc (.cells #[.bool false, .slice none 0 0, .slice none 0 0] 30) = W1 at kb P ⊢
  refine (TA.out _ (hA.below kb)).mono ?_
  rintro e w1 ⟨rfl, rfl⟩
  go_wp2_with fail
  refine (TB.out _ (hD.below kb)).mono ?_
  rintro e w1 ⟨rfl, rfl⟩
  go_wp2_with fail
  refine (HO.out _ (RD.below kb)).mono ?_
  rintro e w2 ⟨rfl, hb⟩
  replace P := rblk_below P hb
  replace kb := bt kb hb
  clear hb
  go_wp2_with fail
  refine (HG.out _ (RA.below kb) (RD.below kb)).mono ?_
  rintro e w5 ⟨A5, c5, rfl, o5, hb⟩
  replace P := rblk_below P hb
  replace kb := bt kb hb
  clear hb
  go_wp2_with fail
  refine (H1.out _ _ _ o5.rd).mono ?_
  rintro e w6 ⟨rfl, hb⟩
  replace P := rblk_below P hb
  replace kb := bt kb hb
  replace o5 := o5.below hb
  clear hb
  have r0 : w6.cell? ⟨w.heap.size, 0, none⟩ = some (.bool false) := rblk_cell P 0
  have r1 : w6.cell? ⟨w.heap.size, 1, none⟩ = some (.slice none 0 0) := rblk_cell P 1
  have r2 : w6.cell? ⟨w.heap.size, 2, none⟩ = some (.slice none 0 0) := rblk_cell P 2
  have s0 := rblk_free P 0
  have s1 := rblk_free P 1
  have s2 := rblk_free P 2
  by_cases k0 : (24 : Int) < (((LA).length : Nat) : Int)
  · clear k1
    go_wp2
    exact bodyPost_ret (v := .agg #[.bool false, .slice none 0 0, .slice none 0 0]) (by simp [results, Tryz.results113, go_sem, r0, r1, r2]) rfl ⟨none, 0, none, 0, rfl, Nat.le_refl _, Nat.le_refl _, .inl rfl, .inl rfl, (fun a h => by simp [rowOf] at h), below_put (below_put (below_put kb (by omega) _) (by omega) _) (by omega) _⟩
  · have k2 : (24 : Int) < (((LB).length : Nat) : Int) := by omega
    clear k1
    go_wp2
    exact bodyPost_ret (v := .agg #[.bool false, .slice none 0 0, .slice none 0 0]) (by simp [results, Tryz.results113, go_sem, r0, r1, r2]) rfl ⟨none, 0, none, 0, rfl, Nat.le_refl _, Nat.le_refl _, .inl rfl, .inl rfl, (fun a h => by simp [rowOf] at h), below_put (below_put (below_put kb (by omega) _) (by omega) _) (by omega) _⟩

set_option maxHeartbeats 1000000 in
theorem low_g2_fit (s : Bool) (a b : Nat) (A D : Option Addr) (n c k d : Nat) (w : World) (ha : ln a ≤ n) (hb : ln b ≤ k) (hn : n ≤ 60) (hk : k ≤ 60) (hb0 : 0 < b) (hb1 : b ≠ 1) (hg : Nat.gcd a b ≠ 1) (h24 : ln (a / Nat.gcd a b) ≤ 24 ∧ ln (b / Nat.gcd a b) ≤ 24) (hcA : n ≤ c) (hcD : k ≤ d) (hA : RdS w A (vi (row n a))) (hD : RdS w D (vi (row k b))) :
    Calls Tryz.prog 113 #[.bool s, .slice A n c, .slice D k d] w (MadeR w.heap.size (s && decide (nd (a / Nat.gcd a b) ≠ [])) (nd (a / Nat.gcd a b)) (nd (b / Nat.gcd a b)) w) := by
  have TA := Lib.hid (fun W h => trim_rr n c a A W h ha hcA (by omega))
  have TB := Lib.hid (fun W h => trim_rr k d b D W h hb hcD (by omega))
  have RD := row_val_ex b hD hb
  have RA := row_val_ex a hA ha
  have hlb : 0 < ln b := by rw [ln_pos hb0]; omega
  have hbl : (nd b).length = ln b := nd_length b
  have hz0 : ((ln b : Int) == 0) = false := by rw [beq_eq_false_iff_ne]; omega
  have hz1 : ¬ (ln b : Int) = 0 := by omega
  have HO := Lib.hid (fun W (h : RdS W D (vi (nd b))) => one_any (nd b) D (ln b) d W hbl (by omega) h)
  rw [show decide (nd b = [1]) = false from decide_eq_false (fun e => hb1 (nd_inj (by rw [e, nd_one])))] at HO
  have HG := Lib.hid (fun W h h' => spec_gcd_rd a b A D (ln a) c (ln b) d W rfl rfl (by omega) (by omega) h h')
  have hgp : 0 < Nat.gcd a b := Nat.gcd_pos_of_pos_right _ hb0
  have hgl : ln (Nat.gcd a b) ≤ 60 := by have := ln_mono (Nat.le_of_dvd hb0 (Nat.gcd_dvd_right a b)); omega
  have H1 := Lib.hid (fun A' c' W h => one_any (nd (Nat.gcd a b)) A' _ c' W rfl (by rw [nd_length]; omega) h)
  rw [show decide (nd (Nat.gcd a b) = [1]) = false from decide_eq_false (fun e => hg (nd_inj (by rw [e, nd_one])))] at H1
  have hgn : 0 < (nd (Nat.gcd a b)).length := by rw [nd_length, ln_pos hgp]; omega
  have HDa := Lib.hid (fun W A' c' h h' => spec_div_any a (Nat.gcd a b) A A' (ln a) c (nd (Nat.gcd a b)).length c' W rfl (by rw [nd_length]) (by omega) (by rw [nd_length]; omega) hgn h h')
  have HDb := Lib.hid (fun W A' c' h h' => spec_div_any b (Nat.gcd a b) D A' (ln b) d (nd (Nat.gcd a b)).length c' W rfl (by rw [nd_length]) (by omega) (by rw [nd_length]; omega) hgn h h')
  have hlx : (nd (a / Nat.gcd a b)).length = ln (a / Nat.gcd a b) := nd_length _
  have hly : (nd (b / Nat.gcd a b)).length = ln (b / Nat.gcd a b) := nd_length _
  have HMk := Lib.hid (fun W A' c' (hc : (nd (a / Nat.gcd a b)).length ≤ c') (h : RdS W A' (vi (nd (a / Nat.gcd a b)))) => make_rd s (a / Nat.gcd a b) (nd (a / Nat.gcd a b)).length c' A' W (nd_length _).symm (by omega) hc h)
  rw [cap60_yes' (show ln (a / Nat.gcd a b) ≤ 60 by omega)] at HMk
  have k1 : ¬ (24 : Int) < (((nd (a / Nat.gcd a b)).length : Nat) : Int) := by omega
  have k2 : ¬ (24 : Int) < (((nd (b / Nat.gcd a b)).length : Nat) : Int) := by omega
  have k3 : (nd (b / Nat.gcd a b)).length ≤ 1048576 := by omega
  have nA : (nd a).length = ln a := nd_length a
  rw [← nA] at TA HG HDa
  rw [← hbl] at TB HO hz0 hz1 HG HDb
  clear ha hb hn hk h24 hcA hcD hb0 hb1 hg hlb hbl hlx hly nA hgp hgl hgn
  generalize nd (a / Nat.gcd a b) = X at HDa k1 HMk ⊢
  generalize nd (b / Nat.gcd a b) = Y at HDb k1 k2 k3 ⊢
  generalize nd (a % Nat.gcd a b) = Z1 at HDa
  generalize nd (b % Nat.gcd a b) = Z2 at HDb
  generalize nd (Nat.gcd a b) = G at HG H1 HDa HDb
  generalize nd a = LA at TA RA HG HDa
  generalize nd b = LB at TB RD HO hz0 hz1 HG HDb
  generalize (s && decide (X ≠ [])) = sg at HMk ⊢
  go_enter Tryz.func113, Tryz.ntmps113
  go_wp2_with fail
  have kb := ba1 w (.cells #[.bool false, .slice none 0 0, .slice none 0 0] 30)
  have P := heap_alloc_new w (.cells #[.bool false, .slice none 0 0, .slice none 0 0] 30)
  generalize w.alloc (.cells #[.bool false, .slice none 0 0, .slice none 0 0] 30) = W1 at kb P ⊢
  refine (TA.out _ (hA.below kb)).mono ?_
  rintro e w1 ⟨rfl, rfl⟩
  go_wp2_with fail
  refine (TB.out _ (hD.below kb)).mono ?_
  rintro e w1 ⟨rfl, rfl⟩
  go_wp2_with fail
  refine (HO.out _ (RD.below kb)).mono ?_
  rintro e w2 ⟨rfl, hb⟩
  replace P := rblk_below P hb
  replace kb := bt kb hb
  clear hb
  go_wp2_with fail
  refine (HG.out _ (RA.below kb) (RD.below kb)).mono ?_
  rintro e w5 ⟨A5, c5, rfl, o5, hb⟩
  replace P := rblk_below P hb
  replace kb := bt kb hb
  clear hb
  go_wp2_with fail
  refine (H1.out _ _ _ o5.rd).mono ?_
  rintro e w6 ⟨rfl, hb⟩
  replace P := rblk_below P hb
  replace kb := bt kb hb
  replace o5 := o5.below hb
  clear hb
  go_wp2_with fail
  refine (HDa.out _ _ _ (RA.below kb) o5.rd).mono ?_
  rintro e w7 ⟨A7, c7, D7, d7, rfl, hcx, o7, -, hb⟩
  replace P := rblk_below P hb
  replace kb := bt kb hb
  replace o5 := o5.below hb
  clear hb
  go_wp2_with fail
  refine (HDb.out _ _ _ (RD.below kb) o5.rd).mono ?_
  rintro e w8 ⟨A8, c8, D8, d8, rfl, -, o8, -, hb⟩
  replace P := rblk_below P hb
  replace kb := bt kb hb
  replace o7 := o7.below hb
  clear hb
  go_wp2_with fail
  have hlt2 := rblk_lt P
  refine (HMk.out _ _ _ hcx o7.rd).mono ?_
  rintro e w3 ⟨A3, c3, rfl, hc3, o3, hb⟩
  replace P := rblk_below P hb
  replace kb := bt kb hb
  replace o8 := o8.below hb
  clear hb
  have hlt3 := rblk_lt P
  have hs0 : (w3.alloc (.cells #[] 3)).ownsRow w3.heap.size 3 1 (.slice (some ⟨w3.heap.size, 0, none⟩) 0 0) 0 (vi []) := World.ownsRow_made w3 #[] 0 (by omega) (by simp [maxLen]) rfl
  have RY := (o8.rd).below (ba1 w3 (.cells #[] 3))
  go_wp2_with (at_builtin; refine append_rd rfl (.tmp 51) (.tmp 52) rfl w3.heap.size 0 Y.length c8 _ [] Y A8 (w3.alloc (.cells #[] 3)) rfl rfl hs0 (by omega) k3 rfl RY (by simp) ?_; intro v1 w4 hown hb4 hsz4; refine cut_here ?_)
  have hb34 : Below w3.heap.size w3 w4 := (ba1 w3 (.cells #[] 3)).trans hb4
  clear hb4 hsz4 hs0 RY
  rw [Nat.zero_add, List.nil_append] at hown
  obtain ⟨A4, c4, hv4, hcc4, _, _⟩ := own_len hown
  subst hv4
  have o4 := OwnS.of_own hown
  clear hown
  replace P := rblk_below P hb34
  replace kb := bt kb hb34
  have i3 := o3.inR (vi_length X)
  have i4 := o4.inR (vi_length Y)
  have hap : Apart X.length A3 Y.length A4 := i3.apart i4 (.inl (Nat.le_refl _))
  replace o3 := o3.below hb34
  have r0 : w4.cell? ⟨w.heap.size, 0, none⟩ = some (.bool false) := rblk_cell P 0
  have r1 : w4.cell? ⟨w.heap.size, 1, none⟩ = some (.slice none 0 0) := rblk_cell P 1
  have r2 : w4.cell? ⟨w.heap.size, 2, none⟩ = some (.slice none 0 0) := rblk_cell P 2
  have s0 := rblk_free P 0
  have s1 := rblk_free P 1
  have s2 := rblk_free P 2
  refine Cut.of ?_
  go_wp2
  exact bodyPost_ret (v := .agg #[.bool sg, .slice A3 X.length c3, .slice A4 Y.length c4]) (by simp [results, Tryz.results113, go_sem, r0, r1, r2]) rfl ⟨A3, c3, A4, c4, rfl, hc3, hcc4, (((o3.put (by omega) _).put (by omega) _).put (by omega) _).more (by omega), (((o4.put (by omega) _).put (by omega) _).put (by omega) _).more (by omega), hap, below_put (below_put (below_put kb (by omega) _) (by omega) _) (by omega) _⟩

set_option maxHeartbeats 1000000 in
theorem low_g2_big (s : Bool) (a b : Nat) (A D : Option Addr) (n c k d : Nat) (w : World) (ha : ln a ≤ n) (hb : ln b ≤ k) (hn : n ≤ 60) (hk : k ≤ 60) (hb0 : 0 < b) (hb1 : b ≠ 1) (hg : Nat.gcd a b ≠ 1) (h24 : ¬ (ln (a / Nat.gcd a b) ≤ 24 ∧ ln (b / Nat.gcd a b) ≤ 24)) (hcA : n ≤ c) (hcD : k ≤ d) (hA : RdS w A (vi (row n a))) (hD : RdS w D (vi (row k b))) :
    Calls Tryz.prog 113 #[.bool s, .slice A n c, .slice D k d] w (MadeR w.heap.size false [] [] w) := by
  have TA := Lib.hid (fun W h => trim_rr n c a A W h ha hcA (by omega))
  have TB := Lib.hid (fun W h => trim_rr k d b D W h hb hcD (by omega))
  have RD := row_val_ex b hD hb
  have RA := row_val_ex a hA ha
  have hlb : 0 < ln b := by rw [ln_pos hb0]; omega
  have hbl : (nd b).length = ln b := nd_length b
  have hz0 : ((ln b : Int) == 0) = false := by rw [beq_eq_false_iff_ne]; omega
  have hz1 : ¬ (ln b : Int) = 0 := by omega
  have HO := Lib.hid (fun W (h : RdS W D (vi (nd b))) => one_any (nd b) D (ln b) d W hbl (by omega) h)
  rw [show decide (nd b = [1]) = false from decide_eq_false (fun e => hb1 (nd_inj (by rw [e, nd_one])))] at HO
  have HG := Lib.hid (fun W h h' => spec_gcd_rd a b A D (ln a) c (ln b) d W rfl rfl (by omega) (by omega) h h')
  have hgp : 0 < Nat.gcd a b := Nat.gcd_pos_of_pos_right _ hb0
  have hgl : ln (Nat.gcd a b) ≤ 60 := by have := ln_mono (Nat.le_of_dvd hb0 (Nat.gcd_dvd_right a b)); omega
  have H1 := Lib.hid (fun A' c' W h => one_any (nd (Nat.gcd a b)) A' _ c' W rfl (by rw [nd_length]; omega) h)
  rw [show decide (nd (Nat.gcd a b) = [1]) = false from decide_eq_false (fun e => hg (nd_inj (by rw [e, nd_one])))] at H1
  have hgn : 0 < (nd (Nat.gcd a b)).length := by rw [nd_length, ln_pos hgp]; omega
  have HDa := Lib.hid (fun W A' c' h h' => spec_div_any a (Nat.gcd a b) A A' (ln a) c (nd (Nat.gcd a b)).length c' W rfl (by rw [nd_length]) (by omega) (by rw [nd_length]; omega) hgn h h')
  have HDb := Lib.hid (fun W A' c' h h' => spec_div_any b (Nat.gcd a b) D A' (ln b) d (nd (Nat.gcd a b)).length c' W rfl (by rw [nd_length]) (by omega) (by rw [nd_length]; omega) hgn h h')
  have hlx : (nd (a / Nat.gcd a b)).length = ln (a / Nat.gcd a b) := nd_length _
  have hly : (nd (b / Nat.gcd a b)).length = ln (b / Nat.gcd a b) := nd_length _
  have k1 : (24 : Int) < (((nd (a / Nat.gcd a b)).length : Nat) : Int) ∨ (24 : Int) < (((nd (b / Nat.gcd a b)).length : Nat) : Int) := by omega
  have nA : (nd a).length = ln a := nd_length a
  rw [← nA] at TA HG HDa
  rw [← hbl] at TB HO hz0 hz1 HG HDb
  clear ha hb hn hk h24 hcA hcD hb0 hb1 hg hlb hbl hlx hly nA hgp hgl hgn
  generalize nd (a / Nat.gcd a b) = X at HDa k1
  generalize nd (b / Nat.gcd a b) = Y at HDb k1
  generalize nd (a % Nat.gcd a b) = Z1 at HDa
  generalize nd (b % Nat.gcd a b) = Z2 at HDb
  generalize nd (Nat.gcd a b) = G at HG H1 HDa HDb
  generalize nd a = LA at TA RA HG HDa
  generalize nd b = LB at TB RD HO hz0 hz1 HG HDb
  go_enter Tryz.func113, Tryz.ntmps113
  go_wp2_with fail
  have kb := ba1 w (.cells #[.bool false, .slice none 0 0, .slice none 0 0] 30)
  have P := heap_alloc_new w (.cells #[.bool false, .slice none 0 0, .slice none 0 0] 30)
  generalize w.alloc (.cells #[.bool false, .slice none 0 0, .slice none 0 0] 30) = W1 at kb P ⊢
  refine (TA.out _ (hA.below kb)).mono ?_
  rintro e w1 ⟨rfl, rfl⟩
  go_wp2_with fail
  refine (TB.out _ (hD.below kb)).mono ?_
  rintro e w1 ⟨rfl, rfl⟩
  go_wp2_with fail
  refine (HO.out _ (RD.below kb)).mono ?_
  rintro e w2 ⟨rfl, hb⟩
  replace P := rblk_below P hb
  replace kb := bt kb hb
  clear hb
  go_wp2_with fail
  refine (HG.out _ (RA.below kb) (RD.below kb)).mono ?_
  rintro e w5 ⟨A5, c5, rfl, o5, hb⟩
  replace P := rblk_below P hb
  replace kb := bt kb hb
  clear hb
  go_wp2_with fail
  refine (H1.out _ _ _ o5.rd).mono ?_
  rintro e w6 ⟨rfl, hb⟩
  replace P := rblk_below P hb
  replace kb := bt kb hb
  replace o5 := o5.below hb
  clear hb
  go_wp2_with fail
  refine (HDa.out _ _ _ (RA.below kb) o5.rd).mono ?_
  rintro e w7 ⟨A7, c7, D7, d7, rfl, hcx, o7, -, hb⟩
  replace P := rblk_below P hb
  replace kb := bt kb hb
  replace o5 := o5.below hb
  clear hb
  go_wp2_with fail
  refine (HDb.out _ _ _ (RD.below kb) o5.rd).mono ?_
  rintro e w8 ⟨A8, c8, D8, d8, rfl, -, o8, -, hb⟩
  replace P := rblk_below P hb
  replace kb := bt kb hb
  replace o7 := o7.below hb
  clear hb
  have r0 : w8.cell? ⟨w.heap.size, 0, none⟩ = some (.bool false) := rblk_cell P 0
  have r1 : w8.cell? ⟨w.heap.size, 1, none⟩ = some (.slice none 0 0) := rblk_cell P 1
  have r2 : w8.cell? ⟨w.heap.size, 2, none⟩ = some (.slice none 0 0) := rblk_cell P 2
  have s0 := rblk_free P 0
  have s1 := rblk_free P 1
  have s2 := rblk_free P 2
  by_cases k0 : (24 : Int) < (((X).length : Nat) : Int)
  · clear k1
    go_wp2
    exact bodyPost_ret (v := .agg #[.bool false, .slice none 0 0, .slice none 0 0]) (by simp [results, Tryz.results113, go_sem, r0, r1, r2]) rfl ⟨none, 0, none, 0, rfl, Nat.le_refl _, Nat.le_refl _, .inl rfl, .inl rfl, (fun a h => by simp [rowOf] at h), below_put (below_put (below_put kb (by omega) _) (by omega) _) (by omega) _⟩
  · have k2 : (24 : Int) < (((Y).length : Nat) : Int) := by omega
    clear k1
    go_wp2
    exact bodyPost_ret (v := .agg #[.bool false, .slice none 0 0, .slice none 0 0]) (by simp [results, Tryz.results113, go_sem, r0, r1, r2]) rfl ⟨none, 0, none, 0, rfl, Nat.le_refl _, Nat.le_refl _, .inl rfl, .inl rfl, (fun a h => by simp [rowOf] at h), below_put (below_put (below_put kb (by omega) _) (by omega) _) (by omega) _⟩

/-- The fraction of a sign, a magnitude and a denominator in lowest terms, or none. -/
def lowQ (s : Bool) (a b : Nat) : Option Rat := if b = 0 then none else cutQ (mkRat (sgn s a) b)
theorem lowQ_parts (s : Bool) (a b : Nat) (hb0 : 0 < b) : (mkRat (sgn s a) b).num.natAbs = a / Nat.gcd a b ∧ (mkRat (sgn s a) b).den = b / Nat.gcd a b ∧ zn (mkRat (sgn s a) b).num = (s && decide (nd (a / Nat.gcd a b) ≠ [])) := by
  obtain ⟨h1, h2, h3⟩ := low_parts (sgn s a) b hb0
  rw [sgn_abs] at h1 h2
  refine ⟨h1, h2, ?_⟩
  rw [h3, sgn_zn]
  congr 1
  have hg : 0 < Nat.gcd a b := Nat.gcd_pos_of_pos_right _ hb0
  have hd : Nat.gcd a b ∣ a := Nat.gcd_dvd_left a b
  by_cases h : a = 0
  · subst h
    rw [Nat.zero_div, nd_zero]
    simp
  · have : nd (a / Nat.gcd a b) ≠ [] := fun e => by
      have h0 := nd_nil_iff.1 e
      have := Nat.div_pos (Nat.le_of_dvd (by omega) hd) hg
      omega
    rw [decide_eq_true h, decide_eq_true this]
theorem lowQ_yes (s : Bool) (a b : Nat) (hb0 : 0 < b) (h24 : ln (a / Nat.gcd a b) ≤ 24 ∧ ln (b / Nat.gcd a b) ≤ 24) : qn (lowQ s a b) = (s && decide (nd (a / Nat.gcd a b) ≠ [])) ∧ ql (lowQ s a b) = nd (a / Nat.gcd a b) ∧ qd (lowQ s a b) = nd (b / Nat.gcd a b) := by
  obtain ⟨h1, h2, h3⟩ := lowQ_parts s a b hb0
  have hf : Fit (mkRat (sgn s a) b) := by unfold Fit; rw [h1, h2]; exact h24
  have e : lowQ s a b = some (mkRat (sgn s a) b) := by unfold lowQ; rw [if_neg (by omega), cutQ_in hf]
  rw [e]
  refine ⟨h3, ?_, ?_⟩
  · show zm _ = _
    unfold zm; rw [h1]
  · show nd _ = _
    rw [h2]
theorem lowQ_no (s : Bool) (a b : Nat) (h : b = 0 ∨ ¬ (ln (a / Nat.gcd a b) ≤ 24 ∧ ln (b / Nat.gcd a b) ≤ 24)) : lowQ s a b = none := by
  unfold lowQ
  by_cases hb : b = 0
  · rw [if_pos hb]
  · rw [if_neg hb]
    obtain ⟨h1, h2, _⟩ := lowQ_parts s a b (by omega)
    refine cutQ_out ?_
    unfold Fit
    rw [h1, h2]
    rcases h with h | h
    · exact absurd h hb
    · exact h
/-- 'l04Low' of the model. -/
theorem spec_low (s : Bool) (a b : Nat) (A D : Option Addr) (n c k d : Nat) (w : World) (ha : ln a ≤ n) (hb : ln b ≤ k) (hn : n ≤ 60) (hk : k ≤ 60) (hcA : n ≤ c) (hcD : k ≤ d) (hA : RdS w A (vi (row n a))) (hD : RdS w D (vi (row k b))) :
    Calls Tryz.prog 113 #[.bool s, .slice A n c, .slice D k d] w (MadeR w.heap.size (qn (lowQ s a b)) (ql (lowQ s a b)) (qd (lowQ s a b)) w) := by
  by_cases hb0 : b = 0
  · rw [lowQ_no s a b (.inl hb0)]
    exact low_zero s a b A D n c k d w ha hb hn hk hb0 hcA hcD hA hD
  · have hbp : 0 < b := by omega
    by_cases h24 : ln (a / Nat.gcd a b) ≤ 24 ∧ ln (b / Nat.gcd a b) ≤ 24
    · obtain ⟨e1, e2, e3⟩ := lowQ_yes s a b hbp h24
      by_cases hg : Nat.gcd a b = 1
      · simp only [hg, Nat.div_one] at h24 e1 e2 e3
        by_cases h1 : b = 1
        · exact (low_one_fit s a b A D n c k d w ha hb hn hk hbp h1 hg h24 hcA hcD hA hD).mono fun e w' h => h.to e1 e2 e3
        · exact (low_g1_fit s a b A D n c k d w ha hb hn hk hbp h1 hg h24 hcA hcD hA hD).mono fun e w' h => h.to e1 e2 e3
      · have h1 : b ≠ 1 := fun e => hg (by rw [e]; exact Nat.gcd_one_right a)
        exact (low_g2_fit s a b A D n c k d w ha hb hn hk hbp h1 hg h24 hcA hcD hA hD).mono fun e w' h => h.to e1 e2 e3
    · rw [lowQ_no s a b (.inr h24)]
      by_cases hg : Nat.gcd a b = 1
      · simp only [hg, Nat.div_one] at h24
        by_cases h1 : b = 1
        · exact low_one_big s a b A D n c k d w ha hb hn hk hbp h1 hg h24 hcA hcD hA hD
        · exact low_g1_big s a b A D n c k d w ha hb hn hk hbp h1 hg h24 hcA hcD hA hD
      · have h1 : b ≠ 1 := fun e => hg (by rw [e]; exact Nat.gcd_one_right a)
        exact low_g2_big s a b A D n c k d w ha hb hn hk hbp h1 hg h24 hcA hcD hA hD
end Go.Proofs.YtennekieiioilaaGreat

namespace Go.Proofs.YtennekieiioilaaGreat
open Go.ChangeShapes Go.WideShapes Go.ChangeAt Go.RowKit
open Go.ChangeMaps (open_string shut_string)
set_option linter.unusedVariables false
set_option linter.unusedSimpArgs false
set_option maxRecDepth 4000

/-- 'l03Make' of a sign and a product. -/
theorem make_z (p : Bool) (v : Nat) (z : Int) (hz : sgn p v = z) (h60 : ln v ≤ 60) : (p && decide (cap60 v ≠ [])) = zn z ∧ cap60 v = zm z := by
  rw [cap60_yes' h60]
  subst hz
  refine ⟨?_, ?_⟩
  · rw [sgn_zn]
    congr 1
    by_cases h : v = 0
    · rw [h, nd_zero]; simp
    · rw [decide_eq_true h, decide_eq_true (nd_pos h)]
  · unfold zm; rw [sgn_abs]

/-- The order of two fractions; 0 where one is none. -/
def cmpO (x y : Option Rat) : Int := match x, y with
  | some r, some s => cmpQ r s
  | _, _ => 0
end Go.Proofs.YtennekieiioilaaGreat

namespace Go.Proofs.YtennekieiioilaaGreat
open Go.ChangeShapes Go.WideShapes Go.ChangeAt Go.RowKit
open Go.ChangeMaps (open_string shut_string)
set_option linter.unusedVariables false
set_option linter.unusedSimpArgs false
set_option maxRecDepth 4000

attribute [local go_sem ↓] Go.wp_at_zero Go.wp_at_succ

theorem low_mul (r s : Rat) : lowQ (!(zn r.num == zn s.num)) (r.num.natAbs * s.num.natAbs) (r.den * s.den) = mulQ r s := by
  unfold lowQ mulQ
  rw [if_neg (Nat.mul_ne_zero r.den_nz s.den_nz), Rat.mul_def', show sgn (!(zn r.num == zn s.num)) (r.num.natAbs * s.num.natAbs) = r.num * s.num from times_z r.num s.num]
set_option maxHeartbeats 2000000 in
theorem lmul_any (r s : Rat) (A D A' D' : Option Addr) (n k n' k' c d c' d' : Nat) (w : World) (hr : Fit r) (hs : Fit s) (hl : (zm r.num).length = n) (hm : (nd r.den).length = k) (hl' : (zm s.num).length = n') (hm' : (nd s.den).length = k')
    (hA : RdS w A (vi (zm r.num))) (hD : RdS w D (vi (nd r.den))) (hA' : RdS w A' (vi (zm s.num))) (hD' : RdS w D' (vi (nd s.den))) :
    Calls Tryz.prog 86 #[.agg #[.bool (zn r.num), .slice A n c, .slice D k d], .agg #[.bool (zn s.num), .slice A' n' c', .slice D' k' d']] w (MadeR w.heap.size (qn (mulQ r s)) (ql (mulQ r s)) (qd (mulQ r s)) w) := by
  have hr1 := hr.1; have hr2 := hr.2; have hs1 := hs.1; have hs2 := hs.2
  rw [zm_length] at hl hl'
  rw [nd_length] at hm hm'
  have M1 := Lib.hid (fun W h h' => spec_l02Mul r.num.natAbs s.num.natAbs A A' n c n' c' W hl hl' (by omega) (by omega) h h')
  have M2 := Lib.hid (fun W h h' => spec_l02Mul r.den s.den D D' k d k' d' W hm hm' (by omega) (by omega) h h')
  obtain ⟨z1, z2, _⟩ := mul_sizes hr hs
  rw [Int.natAbs_mul] at z1
  have HL := Lib.hid (fun A D c d W (hc : (nd (r.num.natAbs * s.num.natAbs)).length ≤ c) (hd : (nd (r.den * s.den)).length ≤ d) h h' => spec_low (!(zn r.num == zn s.num)) (r.num.natAbs * s.num.natAbs) (r.den * s.den) A D (nd (r.num.natAbs * s.num.natAbs)).length c (nd (r.den * s.den)).length d W (by rw [nd_length]; exact Nat.le_refl _) (by rw [nd_length]; exact Nat.le_refl _) (by rw [nd_length]; omega) (by rw [nd_length]; omega) hc hd h h')
  simp only [nd_length] at HL
  rw [low_mul] at HL
  simp only [show ∀ v : Nat, row (ln v) v = nd v from fun v => rfl] at HL
  simp only [← nd_length] at HL
  clear z1 z2 hr1 hr2 hs1 hs2 hl hl' hm hm' hr hs
  generalize qn (mulQ r s) = sg at HL ⊢
  generalize ql (mulQ r s) = L at HL ⊢
  generalize qd (mulQ r s) = M at HL ⊢
  generalize nd (r.num.natAbs * s.num.natAbs) = X at M1 HL
  generalize nd (r.den * s.den) = Y at M2 HL
  unfold zm at hA hA'
  generalize nd r.num.natAbs = La at *
  generalize nd s.num.natAbs = Lb at *
  generalize nd r.den = Da at *
  generalize nd s.den = Db at *
  have RR : Hid (∀ W, Below w.heap.size w W → RdS W A (vi La) ∧ RdS W D (vi Da) ∧ RdS W A' (vi Lb) ∧ RdS W D' (vi Db)) := Lib.hid (fun W hb => ⟨hA.below hb, hD.below hb, hA'.below hb, hD'.below hb⟩)
  clear hA hD hA' hD'
  generalize zn r.num = pr at HL ⊢
  generalize zn s.num = ps at HL ⊢
  go_enter Tryz.func86, Tryz.ntmps86
  go_wp2_with fail
  have kb := ba3 w (.cells #[.bool pr, .slice A n c, .slice D k d] 30) (.cells #[.bool ps, .slice A' n' c', .slice D' k' d'] 30) (.cells #[.bool false, .slice none 0 0, .slice none 0 0] 30)
  obtain ⟨P_r, P_s, P_o⟩ := blocks3 w (.cells #[.bool pr, .slice A n c, .slice D k d] 30) (.cells #[.bool ps, .slice A' n' c', .slice D' k' d'] 30) (.cells #[.bool false, .slice none 0 0, .slice none 0 0] 30)
  generalize ((w.alloc (.cells #[.bool pr, .slice A n c, .slice D k d] 30)).alloc (.cells #[.bool ps, .slice A' n' c', .slice D' k' d'] 30)).alloc (.cells #[.bool false, .slice none 0 0, .slice none 0 0] 30) = W1 at kb P_r P_s P_o ⊢
  obtain ⟨rr, hrr⟩ : ∃ r, r = w.heap.size + 1 + 1 := ⟨_, rfl⟩
  rw [← hrr] at P_o ⊢
  have hrr3 : w.heap.size ≤ rr := by omega
  have nr_r : rr ≠ w.heap.size := by omega
  have nr_s : rr ≠ w.heap.size + 1 := by omega
  clear hrr
  have SB : Hid (∀ w', Keep3 W1 w' rr → (w'.cell? ⟨w.heap.size, 0, none⟩ = some (.bool pr) ∧ w'.cell? ⟨w.heap.size, 1, none⟩ = some (.slice A n c) ∧ w'.cell? ⟨w.heap.size, 2, none⟩ = some (.slice D k d) ∧ w'.cell? ⟨w.heap.size + 1, 0, none⟩ = some (.bool ps) ∧ w'.cell? ⟨w.heap.size + 1, 1, none⟩ = some (.slice A' n' c') ∧ w'.cell? ⟨w.heap.size + 1, 2, none⟩ = some (.slice D' k' d') ∧ Keep3 W1 w' rr)) := Lib.hid (fun w' hK => ⟨rblk_cell (hK.block P_r nr_r) 0, rblk_cell (hK.block P_r nr_r) 1, rblk_cell (hK.block P_r nr_r) 2, rblk_cell (hK.block P_s nr_s) 0, rblk_cell (hK.block P_s nr_s) 1, rblk_cell (hK.block P_s nr_s) 2, hK⟩)
  have KW := Lib.hid kb
  have KST := Keep3.start P_o
  clear kb
  go_region_held3 (fun w' => w'.cell? ⟨w.heap.size, 0, none⟩ = some (.bool pr) ∧ w'.cell? ⟨w.heap.size, 1, none⟩ = some (.slice A n c) ∧ w'.cell? ⟨w.heap.size, 2, none⟩ = some (.slice D k d) ∧ w'.cell? ⟨w.heap.size + 1, 0, none⟩ = some (.bool ps) ∧ w'.cell? ⟨w.heap.size + 1, 1, none⟩ = some (.slice A' n' c') ∧ w'.cell? ⟨w.heap.size + 1, 2, none⟩ = some (.slice D' k' d') ∧ Keep3 W1 w' rr)
    (first | (exact SB.out _ KST.drew) | (exact SB.out _ KST) | (exact SB.out _ (KST.below (ba1 _ _))) | (exact SB.out _ (KST.drew.below (ba1 _ _))) | (go_split_ands; exact SB.out _ (Keep3.below (by assumption : Keep3 W1 _ rr) hb)) | (go_split_ands; exact SB.out _ (Keep3.put3 (by assumption : Keep3 W1 _ rr) _ _ _)) | (go_split_ands; exact SB.out _ (Keep3.below (by assumption : Keep3 W1 _ rr) (ba1 _ _))))
    (first | (go_at_call 114; go_split_ands; ((with_reducible refine (M1.out _ (RR.out _ (Keep3.base (by assumption : Keep3 W1 _ rr) KW.out hrr3)).1 (RR.out _ (Keep3.base (by assumption : Keep3 W1 _ rr) KW.out hrr3)).2.2.1).mono ?_); rintro e Wn1_0 ⟨Ax, cx, rfl, hcx, ox, hb⟩; skip)) | (go_at_call 114; go_split_ands; ((with_reducible refine (M2.out _ (RR.out _ (Keep3.base (by assumption : Keep3 W1 _ rr) KW.out hrr3)).2.1 (RR.out _ (Keep3.base (by assumption : Keep3 W1 _ rr) KW.out hrr3)).2.2.2).mono ?_); rintro e Wn1_1 ⟨Ay, cy, rfl, hcy, oy, hb⟩; replace ox := ox.below hb)) | (go_at_call 113; go_split_ands; ((with_reducible refine (HL.out _ _ _ _ _ hcx hcy ox.rd oy.rd).mono ?_); rintro e Wn1_2 ⟨A3, c3, D3, d3, rfl, hc3, hd3, o3, o4, hap3, hb⟩; have hltr := Keep3.lt (by assumption : Keep3 W1 _ rr); have KL := Keep3.below (by assumption : Keep3 W1 _ rr) hb; obtain ⟨u0, u1, u2, t0, t1, t2, t3, t4, t5⟩ := KL.cells)))
  all_goals
    have hfin := (‹_ ∧ _ ∧ _ ∧ _ ∧ _ ∧ _ ∧ Keep3 W1 _ rr›).2.2.2.2.2.2
    go_wp2
    exact bodyPost_ret (v := .agg #[.bool sg, .slice A3 L.length c3, .slice D3 M.length d3]) (by simp [results, Tryz.results86, go_sem, t0, t1, t2]) rfl ⟨A3, c3, D3, d3, rfl, hc3, hd3, (own_put3 o3 hltr _ _ _).more (Nat.le_trans hrr3 (Nat.le_of_lt hltr)), (own_put3 o4 hltr _ _ _).more (Nat.le_trans hrr3 (Nat.le_of_lt hltr)), hap3, hfin.base KW.out hrr3⟩
end Go.Proofs.YtennekieiioilaaGreat

namespace Go.Proofs.YtennekieiioilaaGreat
open Go.ChangeShapes Go.WideShapes Go.ChangeAt Go.RowKit
open Go.ChangeMaps (open_string shut_string)
set_option linter.unusedVariables false
set_option linter.unusedSimpArgs false
set_option maxRecDepth 4000

attribute [local go_sem ↓] Go.wp_at_zero Go.wp_at_succ

theorem rd_one {w : World} {g : Nat} {T : TypeId} {x : Int} (P : w.heap[g]? = some (.cells #[.int .i64 x] T (0, 0))) : RdS w (some ⟨g, 0, none⟩) (vi [x]) :=
  .inr ⟨g, 0, rfl, rblk_lt P, fun j hj => by
    have hj' : j = 0 := by simp [vi] at hj; exact hj
    subst hj'
    rw [Nat.zero_add, rblk_cell P 0]
    rfl⟩
theorem low_add (r s : Rat) : lowQ (zn (r.num * s.den + s.num * r.den)) (r.num * s.den + s.num * r.den).natAbs (r.den * s.den) = addQ r s := by
  unfold lowQ addQ
  rw [if_neg (Nat.mul_ne_zero r.den_nz s.den_nz), sgn_z, Rat.add_def']
theorem low_add_one (r s : Rat) (h : r.den = 1) (h' : s.den = 1) : lowQ (zn (r.num + s.num)) (r.num + s.num).natAbs 1 = addQ r s := by
  unfold lowQ addQ
  rw [if_neg (by decide), sgn_z, add_one h h']

set_option maxHeartbeats 2000000 in
theorem laddR_yy (r s : Rat) (A D A' D' : Option Addr) (n k n' k' c d c' d' : Nat) (w : World) (hr : Fit r) (hs : Fit s) (hl : (zm r.num).length = n) (hm : (nd r.den).length = k) (hl' : (zm s.num).length = n') (hm' : (nd s.den).length = k')
    (hA : RdS w A (vi (zm r.num))) (hD : RdS w D (vi (nd r.den))) (hA' : RdS w A' (vi (zm s.num))) (hD' : RdS w D' (vi (nd s.den))) (h1 : r.den = 1) (h2 : s.den = 1) :
    Calls Tryz.prog 85 #[.agg #[.bool (zn r.num), .slice A n c, .slice D k d], .agg #[.bool (zn s.num), .slice A' n' c', .slice D' k' d']] w (MadeR w.heap.size (qn (addQ r s)) (ql (addQ r s)) (qd (addQ r s)) w) := by
  have hr1 := hr.1; have hr2 := hr.2; have hs1 := hs.1; have hs2 := hs.2
  rw [zm_length] at hl hl'
  rw [nd_length] at hm hm'
  have O1 := Lib.hid (fun W h => one_any (nd r.den) D k d W (by rw [nd_length]; exact hm) (by omega) h)
  have O2 := Lib.hid (fun W h => one_any (nd s.den) D' k' d' W (by rw [nd_length]; exact hm') (by omega) h)
  rw [show decide (nd r.den = [1]) = true from decide_eq_true (by rw [h1, nd_one])] at O1
  rw [show decide (nd s.den = [1]) = true from decide_eq_true (by rw [h2, nd_one])] at O2
  have hz := ln_zadd (a := r.num) (b := s.num) (k := 24) hr.1 hs.1
  have HA := Lib.hid (fun W h h' => ladd_z r.num s.num A A' n c n' c' W hl hl' (by omega) (by omega) h h')
  rw [show czi (r.num + s.num) = r.num + s.num from if_pos (by omega)] at HA
  unfold MadeZ MadeB zm at HA
  have HL := Lib.hid (fun A c g W (hc : (nd (r.num + s.num).natAbs).length ≤ c) h h' => spec_low (zn (r.num + s.num)) (r.num + s.num).natAbs 1 A (some ⟨g, 0, none⟩) (nd (r.num + s.num).natAbs).length c 1 1 W (by rw [nd_length]; exact Nat.le_refl _) (by rw [← nd_length, nd_one]; exact Nat.le_refl _) (by rw [nd_length]; omega) (by omega) hc (Nat.le_refl _) h h')
  rw [low_add_one r s h1 h2] at HL
  simp only [nd_length] at HL
  simp only [show ∀ v : Nat, row (ln v) v = nd v from fun v => rfl, show row 1 (1 : Nat) = [1] from by rw [← nd_one]; unfold nd; rw [← nd_length, nd_one]; rfl] at HL
  simp only [← nd_length] at HL
  clear hz hr1 hr2 hs1 hs2 hl hl' hm hm' hr hs h1 h2
  generalize qn (addQ r s) = sg at HL ⊢
  generalize ql (addQ r s) = L at HL ⊢
  generalize qd (addQ r s) = M at HL ⊢
  generalize zn (r.num + s.num) = zz at HA HL
  generalize nd (r.num + s.num).natAbs = Z at HA HL
  unfold zm at hA hA'
  generalize nd r.num.natAbs = La at *
  generalize nd s.num.natAbs = Lb at *
  generalize nd r.den = Da at *
  generalize nd s.den = Db at *
  have RR : Hid (∀ W, Below w.heap.size w W → RdS W A (vi La) ∧ RdS W D (vi Da) ∧ RdS W A' (vi Lb) ∧ RdS W D' (vi Db)) := Lib.hid (fun W hb => ⟨hA.below hb, hD.below hb, hA'.below hb, hD'.below hb⟩)
  clear hA hD hA' hD'
  generalize zn r.num = pr at HA ⊢
  generalize zn s.num = ps at HA ⊢
  go_enter Tryz.func85, Tryz.ntmps85
  go_wp2_with fail
  have kb := ba3 w (.cells #[.bool pr, .slice A n c, .slice D k d] 30) (.cells #[.bool ps, .slice A' n' c', .slice D' k' d'] 30) (.cells #[.bool false, .slice none 0 0, .slice none 0 0] 30)
  obtain ⟨P_r, P_s, P_o⟩ := blocks3 w (.cells #[.bool pr, .slice A n c, .slice D k d] 30) (.cells #[.bool ps, .slice A' n' c', .slice D' k' d'] 30) (.cells #[.bool false, .slice none 0 0, .slice none 0 0] 30)
  generalize ((w.alloc (.cells #[.bool pr, .slice A n c, .slice D k d] 30)).alloc (.cells #[.bool ps, .slice A' n' c', .slice D' k' d'] 30)).alloc (.cells #[.bool false, .slice none 0 0, .slice none 0 0] 30) = W1 at kb P_r P_s P_o ⊢
  obtain ⟨rr, hrr⟩ : ∃ r, r = w.heap.size + 1 + 1 := ⟨_, rfl⟩
  rw [← hrr] at P_o ⊢
  have hrr3 : w.heap.size ≤ rr := by omega
  have nr_r : rr ≠ w.heap.size := by omega
  have nr_s : rr ≠ w.heap.size + 1 := by omega
  clear hrr
  refine (O1.out _ (RR.out _ kb).2.1).mono ?_
  rintro e W2 ⟨rfl, hb⟩
  replace P_r := rblk_below P_r hb
  replace P_s := rblk_below P_s hb
  replace P_o := rblk_below P_o hb
  replace kb := bt kb hb
  clear hb
  have c_r0 : W2.cell? ⟨w.heap.size, 0, none⟩ = some (.bool pr) := rblk_cell P_r 0
  have c_r1 : W2.cell? ⟨w.heap.size, 1, none⟩ = some (.slice A n c) := rblk_cell P_r 1
  have c_r2 : W2.cell? ⟨w.heap.size, 2, none⟩ = some (.slice D k d) := rblk_cell P_r 2
  have c_s0 : W2.cell? ⟨w.heap.size + 1, 0, none⟩ = some (.bool ps) := rblk_cell P_s 0
  have c_s1 : W2.cell? ⟨w.heap.size + 1, 1, none⟩ = some (.slice A' n' c') := rblk_cell P_s 1
  have c_s2 : W2.cell? ⟨w.heap.size + 1, 2, none⟩ = some (.slice D' k' d') := rblk_cell P_s 2
  go_wp2_with fail
  clear c_r0 c_r1 c_r2 c_s0 c_s1 c_s2
  refine (O2.out _ (RR.out _ kb).2.2.2).mono ?_
  rintro e W3 ⟨rfl, hb⟩
  replace P_r := rblk_below P_r hb
  replace P_s := rblk_below P_s hb
  replace P_o := rblk_below P_o hb
  replace kb := bt kb hb
  clear hb
  have c_r0 : W3.cell? ⟨w.heap.size, 0, none⟩ = some (.bool pr) := rblk_cell P_r 0
  have c_r1 : W3.cell? ⟨w.heap.size, 1, none⟩ = some (.slice A n c) := rblk_cell P_r 1
  have c_r2 : W3.cell? ⟨w.heap.size, 2, none⟩ = some (.slice D k d) := rblk_cell P_r 2
  have c_s0 : W3.cell? ⟨w.heap.size + 1, 0, none⟩ = some (.bool ps) := rblk_cell P_s 0
  have c_s1 : W3.cell? ⟨w.heap.size + 1, 1, none⟩ = some (.slice A' n' c') := rblk_cell P_s 1
  have c_s2 : W3.cell? ⟨w.heap.size + 1, 2, none⟩ = some (.slice D' k' d') := rblk_cell P_s 2
  go_wp2_with fail
  clear c_r0 c_r1 c_r2 c_s0 c_s1 c_s2
  refine (HA.out _ (RR.out _ kb).1 (RR.out _ kb).2.2.1).mono ?_
  rintro e W4 ⟨An, cn, rfl, hcn, on, hb⟩
  replace P_r := rblk_below P_r hb
  replace P_s := rblk_below P_s hb
  replace P_o := rblk_below P_o hb
  replace kb := bt kb hb
  clear hb
  obtain ⟨P_n, P_u⟩ := blocks2 W4 (.cells #[.bool zz, .slice An Z.length cn] 28) (.cells #[.int .i64 1] 3)
  have nr_n : rr ≠ W4.heap.size := by have h1 := rblk_lt P_o; omega
  have nr_u : rr ≠ W4.heap.size + 1 := by have h1 := rblk_lt P_o; omega
  have hb := ba2 W4 (.cells #[.bool zz, .slice An Z.length cn] 28) (.cells #[.int .i64 1] 3)
  replace P_r := rblk_below P_r hb
  replace P_s := rblk_below P_s hb
  replace P_o := rblk_below P_o hb
  replace on := on.below hb
  replace kb := bt kb hb
  clear hb
  have c_n0 : ((W4.alloc (.cells #[.bool zz, .slice An Z.length cn] 28)).alloc (.cells #[.int .i64 1] 3)).cell? ⟨W4.heap.size, 0, none⟩ = some (.bool zz) := rblk_cell P_n 0
  have c_n1 : ((W4.alloc (.cells #[.bool zz, .slice An Z.length cn] 28)).alloc (.cells #[.int .i64 1] 3)).cell? ⟨W4.heap.size, 1, none⟩ = some (.slice An Z.length cn) := rblk_cell P_n 1
  go_wp2_with fail
  clear c_n0 c_n1
  generalize (W4.alloc (.cells #[.bool zz, .slice An Z.length cn] 28)).alloc (.cells #[.int .i64 1] 3) = W5 at kb P_r P_s P_o P_n P_u on ⊢
  have hltr := rblk_lt P_o
  refine (HL.out _ _ _ _ hcn on.rd (rd_one P_u)).mono ?_
  rintro e W6 ⟨A3, c3, D3, d3, rfl, hc3, hd3, o3, o4, hap3, hb⟩
  replace P_r := rblk_below P_r hb
  replace P_s := rblk_below P_s hb
  replace P_o := rblk_below P_o hb
  replace P_n := rblk_below P_n hb
  replace P_u := rblk_below P_u hb
  replace on := on.below hb
  replace kb := bt kb hb
  clear hb
  have c_o0 : W6.cell? ⟨rr, 0, none⟩ = some (.bool false) := rblk_cell P_o 0
  have c_o1 : W6.cell? ⟨rr, 1, none⟩ = some (.slice none 0 0) := rblk_cell P_o 1
  have c_o2 : W6.cell? ⟨rr, 2, none⟩ = some (.slice none 0 0) := rblk_cell P_o 2
  have f_o0 := rblk_free P_o 0
  have f_o1 := rblk_free P_o 1
  have f_o2 := rblk_free P_o 2
  go_wp2
  exact bodyPost_ret (v := .agg #[.bool sg, .slice A3 L.length c3, .slice D3 M.length d3]) (by simp [results, Tryz.results85, go_sem, c_o0, c_o1, c_o2]) rfl ⟨A3, c3, D3, d3, rfl, hc3, hd3, (own_put3 o3 hltr _ _ _).more (Nat.le_trans hrr3 (Nat.le_of_lt hltr)), (own_put3 o4 hltr _ _ _).more (Nat.le_trans hrr3 (Nat.le_of_lt hltr)), hap3, below_put3 kb hrr3 _ _ _⟩

set_option maxHeartbeats 2000000 in
theorem laddR_n (r s : Rat) (A D A' D' : Option Addr) (n k n' k' c d c' d' : Nat) (w : World) (hr : Fit r) (hs : Fit s) (hl : (zm r.num).length = n) (hm : (nd r.den).length = k) (hl' : (zm s.num).length = n') (hm' : (nd s.den).length = k')
    (hA : RdS w A (vi (zm r.num))) (hD : RdS w D (vi (nd r.den))) (hA' : RdS w A' (vi (zm s.num))) (hD' : RdS w D' (vi (nd s.den))) (h1 : r.den ≠ 1) :
    Calls Tryz.prog 85 #[.agg #[.bool (zn r.num), .slice A n c, .slice D k d], .agg #[.bool (zn s.num), .slice A' n' c', .slice D' k' d']] w (MadeR w.heap.size (qn (addQ r s)) (ql (addQ r s)) (qd (addQ r s)) w) := by
  have hr1 := hr.1; have hr2 := hr.2; have hs1 := hs.1; have hs2 := hs.2
  rw [zm_length] at hl hl'
  rw [nd_length] at hm hm'
  obtain ⟨y1, y2, hx, hy⟩ := add_sizes hr hs
  have M1 := Lib.hid (fun W h h' => spec_l02Mul r.num.natAbs s.den A D' n c k' d' W hl hm' (by omega) (by omega) h h')
  have M2 := Lib.hid (fun W h h' => spec_l02Mul s.num.natAbs r.den A' D n' c' k d W hl' hm (by omega) (by omega) h h')
  have M3 := Lib.hid (fun W h h' => spec_l02Mul r.den s.den D D' k d k' d' W hm hm' (by omega) (by omega) h h')
  have l1 : ln (r.num.natAbs * s.den) ≤ 60 := by have := ln_mul r.num.natAbs s.den; omega
  have l2 : ln (s.num.natAbs * r.den) ≤ 60 := by have := ln_mul s.num.natAbs r.den; omega
  have K1 := Lib.hid (fun W B e (hc : (nd (r.num.natAbs * s.den)).length ≤ e) (h : RdS W B (vi (nd (r.num.natAbs * s.den)))) => make_rd (zn r.num) _ (nd (r.num.natAbs * s.den)).length e B W (nd_length _).symm (by rw [nd_length]; omega) hc h)
  have K2 := Lib.hid (fun W B e (hc : (nd (s.num.natAbs * r.den)).length ≤ e) (h : RdS W B (vi (nd (s.num.natAbs * r.den)))) => make_rd (zn s.num) _ (nd (s.num.natAbs * r.den)).length e B W (nd_length _).symm (by rw [nd_length]; omega) hc h)
  obtain ⟨e1, e2⟩ := make_z (zn r.num) _ _ (sgn_mul r.num s.den) l1
  obtain ⟨e3, e4⟩ := make_z (zn s.num) _ _ (sgn_mul s.num r.den) l2
  rw [e1, e2] at K1
  rw [e3, e4] at K2
  have HA := Lib.hid (fun W B e B' e' h h' => ladd_z (r.num * s.den) (s.num * r.den) B B' (zm (r.num * s.den)).length e (zm (s.num * r.den)).length e' W (zm_length _).symm (zm_length _).symm (by rw [zm_length]; omega) (by rw [zm_length]; omega) h h')
  rw [show czi (r.num * s.den + s.num * r.den) = r.num * s.den + s.num * r.den from if_pos (by omega)] at HA
  unfold MadeZ MadeB at HA
  rw [show zm (r.num * s.den + s.num * r.den) = nd (r.num * s.den + s.num * r.den).natAbs from rfl] at HA
  have HL := Lib.hid (fun A D c d W (hc : (nd (r.num * s.den + s.num * r.den).natAbs).length ≤ c) (hd : (nd (r.den * s.den)).length ≤ d) h h' => spec_low (zn (r.num * s.den + s.num * r.den)) (r.num * s.den + s.num * r.den).natAbs (r.den * s.den) A D (nd (r.num * s.den + s.num * r.den).natAbs).length c (nd (r.den * s.den)).length d W (by rw [nd_length]; exact Nat.le_refl _) (by rw [nd_length]; exact Nat.le_refl _) (by rw [nd_length]; omega) (by rw [nd_length]; omega) hc hd h h')
  rw [low_add] at HL
  simp only [nd_length] at HL
  simp only [show ∀ v : Nat, row (ln v) v = nd v from fun v => rfl] at HL
  simp only [← nd_length] at HL
  have O1 := Lib.hid (fun W h => one_any (nd r.den) D k d W (by rw [nd_length]; exact hm) (by omega) h)
  rw [show decide (nd r.den = [1]) = false from decide_eq_false (fun e => h1 (nd_inj (by rw [e, nd_one])))] at O1
  clear y1 y2 hx hy l1 l2 e1 e2 e3 e4 hr1 hr2 hs1 hs2 hl hl' hm hm' hr hs h1
  generalize qn (addQ r s) = sg at HL ⊢
  generalize ql (addQ r s) = L at HL ⊢
  generalize qd (addQ r s) = M at HL ⊢
  generalize zn (r.num * s.den + s.num * r.den) = zz at HA HL
  generalize nd (r.num * s.den + s.num * r.den).natAbs = Z at HA HL
  generalize zm (r.num * s.den) = Z1 at K1 HA
  generalize zm (s.num * r.den) = Z2 at K2 HA
  generalize zn (r.num * s.den) = z1 at K1 HA
  generalize zn (s.num * r.den) = z2 at K2 HA
  generalize nd (r.num.natAbs * s.den) = X at M1 K1
  generalize nd (s.num.natAbs * r.den) = Y at M2 K2
  generalize nd (r.den * s.den) = V at M3 HL
  unfold zm at hA hA'
  generalize nd r.num.natAbs = La at *
  generalize nd s.num.natAbs = Lb at *
  generalize nd r.den = Da at *
  generalize nd s.den = Db at *
  have RR : Hid (∀ W, Below w.heap.size w W → RdS W A (vi La) ∧ RdS W D (vi Da) ∧ RdS W A' (vi Lb) ∧ RdS W D' (vi Db)) := Lib.hid (fun W hb => ⟨hA.below hb, hD.below hb, hA'.below hb, hD'.below hb⟩)
  clear hA hD hA' hD'
  generalize zn r.num = pr at K1 ⊢
  generalize zn s.num = ps at K2 ⊢
  go_enter Tryz.func85, Tryz.ntmps85
  go_wp2_with fail
  have kb := ba3 w (.cells #[.bool pr, .slice A n c, .slice D k d] 30) (.cells #[.bool ps, .slice A' n' c', .slice D' k' d'] 30) (.cells #[.bool false, .slice none 0 0, .slice none 0 0] 30)
  obtain ⟨P_r, P_s, P_o⟩ := blocks3 w (.cells #[.bool pr, .slice A n c, .slice D k d] 30) (.cells #[.bool ps, .slice A' n' c', .slice D' k' d'] 30) (.cells #[.bool false, .slice none 0 0, .slice none 0 0] 30)
  generalize ((w.alloc (.cells #[.bool pr, .slice A n c, .slice D k d] 30)).alloc (.cells #[.bool ps, .slice A' n' c', .slice D' k' d'] 30)).alloc (.cells #[.bool false, .slice none 0 0, .slice none 0 0] 30) = W1 at kb P_r P_s P_o ⊢
  obtain ⟨rr, hrr⟩ : ∃ r, r = w.heap.size + 1 + 1 := ⟨_, rfl⟩
  rw [← hrr] at P_o ⊢
  have hrr3 : w.heap.size ≤ rr := by omega
  have nr_r : rr ≠ w.heap.size := by omega
  have nr_s : rr ≠ w.heap.size + 1 := by omega
  clear hrr
  refine (O1.out _ (RR.out _ kb).2.1).mono ?_
  rintro e W2 ⟨rfl, hb⟩
  replace P_r := rblk_below P_r hb
  replace P_s := rblk_below P_s hb
  replace P_o := rblk_below P_o hb
  replace kb := bt kb hb
  clear hb
  have c_r0 : W2.cell? ⟨w.heap.size, 0, none⟩ = some (.bool pr) := rblk_cell P_r 0
  have c_r1 : W2.cell? ⟨w.heap.size, 1, none⟩ = some (.slice A n c) := rblk_cell P_r 1
  have c_r2 : W2.cell? ⟨w.heap.size, 2, none⟩ = some (.slice D k d) := rblk_cell P_r 2
  have c_s0 : W2.cell? ⟨w.heap.size + 1, 0, none⟩ = some (.bool ps) := rblk_cell P_s 0
  have c_s1 : W2.cell? ⟨w.heap.size + 1, 1, none⟩ = some (.slice A' n' c') := rblk_cell P_s 1
  have c_s2 : W2.cell? ⟨w.heap.size + 1, 2, none⟩ = some (.slice D' k' d') := rblk_cell P_s 2
  go_wp2_with fail
  clear c_r0 c_r1 c_r2 c_s0 c_s1 c_s2
  have SB : Hid (∀ w', Below W2.heap.size W2 w' → (w'.cell? ⟨w.heap.size, 0, none⟩ = some (.bool pr) ∧ w'.cell? ⟨w.heap.size, 1, none⟩ = some (.slice A n c) ∧ w'.cell? ⟨w.heap.size, 2, none⟩ = some (.slice D k d) ∧ w'.cell? ⟨w.heap.size + 1, 0, none⟩ = some (.bool ps) ∧ w'.cell? ⟨w.heap.size + 1, 1, none⟩ = some (.slice A' n' c') ∧ w'.cell? ⟨w.heap.size + 1, 2, none⟩ = some (.slice D' k' d') ∧ Below W2.heap.size W2 w')) := Lib.hid (fun w' hB => ⟨rblk_cell (rblk_below P_r hB) 0, rblk_cell (rblk_below P_r hB) 1, rblk_cell (rblk_below P_r hB) 2, rblk_cell (rblk_below P_s hB) 0, rblk_cell (rblk_below P_s hB) 1, rblk_cell (rblk_below P_s hB) 2, hB⟩)
  have KW := Lib.hid kb
  go_cut [6] (fun sv wx => CutP W2 28 (z1) (Z1) sv wx)
  case first =>
    clear kb
    go_region_held3 (fun w' => w'.cell? ⟨w.heap.size, 0, none⟩ = some (.bool pr) ∧ w'.cell? ⟨w.heap.size, 1, none⟩ = some (.slice A n c) ∧ w'.cell? ⟨w.heap.size, 2, none⟩ = some (.slice D k d) ∧ w'.cell? ⟨w.heap.size + 1, 0, none⟩ = some (.bool ps) ∧ w'.cell? ⟨w.heap.size + 1, 1, none⟩ = some (.slice A' n' c') ∧ w'.cell? ⟨w.heap.size + 1, 2, none⟩ = some (.slice D' k' d') ∧ Below W2.heap.size W2 w')
      (first | (exact SB.out _ (Below.refl _ _).drew) | (exact SB.out _ (ba1 _ _).drew) | (exact SB.out _ (ba1 _ _)) | (go_split_ands; exact SB.out _ (bt (by assumption : Below W2.heap.size W2 _) hb)) | (go_split_ands; exact SB.out _ (Below.alloc (by assumption : Below W2.heap.size W2 _) (Below.size (by assumption : Below W2.heap.size W2 _)) _)) | (go_split_ands; exact SB.out _ (below_put2 (by assumption : Below W2.heap.size W2 _) (by first | exact Nat.le_refl _ | assumption) _ _)))
      (first | (go_at_call 114; go_split_ands; ((with_reducible refine (M1.out _ (RR.out _ (bt KW.out (by assumption : Below W2.heap.size W2 _))).1 (RR.out _ (bt KW.out (by assumption : Below W2.heap.size W2 _))).2.2.2).mono ?_); rintro e Wn0 ⟨Ax, cx, rfl, hcx, ox, hb⟩; have hs0 := (bt (by assumption : Below W2.heap.size W2 _) hb).size; (first | (have tt := (tt_a hb).1; have hgB := (tt_a hb).2) | (have tt := (tt_b hb).1; have hgB := (tt_b hb).2) | (have hgB := (tt_c tt hb).2; replace tt := (tt_c tt hb).1) | skip); skip)) | (go_at_call 105; go_split_ands; ((with_reducible refine (K1.out _ _ _ hcx (by first | exact ox.rd | exact (OwnS.drew' ox).rd | exact (ox.below (ba1 _ _)).rd | exact (OwnS.drew' (ox.below (ba1 _ _))).rd | exact ((OwnS.drew' ox).below (ba1 _ _)).rd)).mono ?_); rintro e Wn1 ⟨Aa, ca, rfl, hca, oa, hb⟩; skip; have KB0 := (by assumption : Below W2.heap.size W2 _); have KB := bt KB0 hb; have hsC := KB.size; have hoa := oa.more KB0.size; (first | (have tt := (tt_a hb).1; have hgB := (tt_a hb).2) | (have tt := (tt_b hb).1; have hgB := (tt_b hb).2) | (have hgB := (tt_c tt hb).2; replace tt := (tt_c tt hb).1) | skip); (first | (have t0 := rblk_cell tt 0; have q0 := rblk_free tt 0; have t1 := rblk_cell tt 1; have q1 := rblk_free tt 1) | skip))))
    all_goals (go_wp2_with fail; go_meet; first | exact ⟨_, Aa, ca, rfl, hsC, hca, heap_alloc_new _ _, hoa.below (ba1 _ _), KB.alloc KB.size _⟩ | exact ⟨_, Aa, ca, rfl, (by first | exact Nat.le_refl _ | assumption), hca, rblk_set (rblk_set tt 0 _) 1 _, (own_put2 oa hgB _ _).more KB0.size, below_put2 KB (by first | exact Nat.le_refl _ | assumption) _ _⟩)
  case rest =>
    obtain ⟨g_a, Aa, ca, rfl, hlo_a, hca, P_a, oa, hb⟩ := hcut
    have nr_a : rr ≠ g_a := by have h1 := rblk_lt P_o; omega
    obtain ⟨W3, hWn⟩ : ∃ W', W' = wc := ⟨_, rfl⟩
    subst hWn
    replace P_r := rblk_below P_r hb
    replace P_s := rblk_below P_s hb
    replace P_o := rblk_below P_o hb
    replace kb := bt kb hb
    clear hb KW SB
    go_wp2_with fail
    have SB : Hid (∀ w', Below W3.heap.size W3 w' → (w'.cell? ⟨w.heap.size, 0, none⟩ = some (.bool pr) ∧ w'.cell? ⟨w.heap.size, 1, none⟩ = some (.slice A n c) ∧ w'.cell? ⟨w.heap.size, 2, none⟩ = some (.slice D k d) ∧ w'.cell? ⟨w.heap.size + 1, 0, none⟩ = some (.bool ps) ∧ w'.cell? ⟨w.heap.size + 1, 1, none⟩ = some (.slice A' n' c') ∧ w'.cell? ⟨w.heap.size + 1, 2, none⟩ = some (.slice D' k' d') ∧ Below W3.heap.size W3 w')) := Lib.hid (fun w' hB => ⟨rblk_cell (rblk_below P_r hB) 0, rblk_cell (rblk_below P_r hB) 1, rblk_cell (rblk_below P_r hB) 2, rblk_cell (rblk_below P_s hB) 0, rblk_cell (rblk_below P_s hB) 1, rblk_cell (rblk_below P_s hB) 2, hB⟩)
    have KW := Lib.hid kb
    go_cut [7] (fun sv wx => CutP W3 28 (z2) (Z2) sv wx)
    case first =>
      clear kb
      go_region_held3 (fun w' => w'.cell? ⟨w.heap.size, 0, none⟩ = some (.bool pr) ∧ w'.cell? ⟨w.heap.size, 1, none⟩ = some (.slice A n c) ∧ w'.cell? ⟨w.heap.size, 2, none⟩ = some (.slice D k d) ∧ w'.cell? ⟨w.heap.size + 1, 0, none⟩ = some (.bool ps) ∧ w'.cell? ⟨w.heap.size + 1, 1, none⟩ = some (.slice A' n' c') ∧ w'.cell? ⟨w.heap.size + 1, 2, none⟩ = some (.slice D' k' d') ∧ Below W3.heap.size W3 w')
        (first | (exact SB.out _ (Below.refl _ _).drew) | (exact SB.out _ (ba1 _ _).drew) | (exact SB.out _ (ba1 _ _)) | (go_split_ands; exact SB.out _ (bt (by assumption : Below W3.heap.size W3 _) hb)) | (go_split_ands; exact SB.out _ (Below.alloc (by assumption : Below W3.heap.size W3 _) (Below.size (by assumption : Below W3.heap.size W3 _)) _)) | (go_split_ands; exact SB.out _ (below_put2 (by assumption : Below W3.heap.size W3 _) (by first | exact Nat.le_refl _ | assumption) _ _)))
        (first | (go_at_call 114; go_split_ands; ((with_reducible refine (M2.out _ (RR.out _ (bt KW.out (by assumption : Below W3.heap.size W3 _))).2.2.1 (RR.out _ (bt KW.out (by assumption : Below W3.heap.size W3 _))).2.1).mono ?_); rintro e Wn0 ⟨Ax, cx, rfl, hcx, ox, hb⟩; have hs0 := (bt (by assumption : Below W3.heap.size W3 _) hb).size; (first | (have tt := (tt_a hb).1; have hgB := (tt_a hb).2) | (have tt := (tt_b hb).1; have hgB := (tt_b hb).2) | (have hgB := (tt_c tt hb).2; replace tt := (tt_c tt hb).1) | skip); skip)) | (go_at_call 105; go_split_ands; ((with_reducible refine (K2.out _ _ _ hcx (by first | exact ox.rd | exact (OwnS.drew' ox).rd | exact (ox.below (ba1 _ _)).rd | exact (OwnS.drew' (ox.below (ba1 _ _))).rd | exact ((OwnS.drew' ox).below (ba1 _ _)).rd)).mono ?_); rintro e Wn1 ⟨Ab, cb, rfl, hcb, ob, hb⟩; skip; have KB0 := (by assumption : Below W3.heap.size W3 _); have KB := bt KB0 hb; have hsC := KB.size; have hob := ob.more KB0.size; (first | (have tt := (tt_a hb).1; have hgB := (tt_a hb).2) | (have tt := (tt_b hb).1; have hgB := (tt_b hb).2) | (have hgB := (tt_c tt hb).2; replace tt := (tt_c tt hb).1) | skip); (first | (have t0 := rblk_cell tt 0; have q0 := rblk_free tt 0; have t1 := rblk_cell tt 1; have q1 := rblk_free tt 1) | skip))))
      all_goals (go_wp2_with fail; go_meet; first | exact ⟨_, Ab, cb, rfl, hsC, hcb, heap_alloc_new _ _, hob.below (ba1 _ _), KB.alloc KB.size _⟩ | exact ⟨_, Ab, cb, rfl, (by first | exact Nat.le_refl _ | assumption), hcb, rblk_set (rblk_set tt 0 _) 1 _, (own_put2 ob hgB _ _).more KB0.size, below_put2 KB (by first | exact Nat.le_refl _ | assumption) _ _⟩)
    case rest =>
      obtain ⟨g_b, Ab, cb, rfl, hlo_b, hcb, P_b, ob, hb⟩ := hcut
      have nr_b : rr ≠ g_b := by have h1 := rblk_lt P_o; omega
      obtain ⟨W4, hWn⟩ : ∃ W', W' = wc := ⟨_, rfl⟩
      subst hWn
      replace P_r := rblk_below P_r hb
      replace P_s := rblk_below P_s hb
      replace P_o := rblk_below P_o hb
      replace P_a := rblk_below P_a hb
      replace oa := oa.below hb
      replace kb := bt kb hb
      clear hb KW SB
      have c_a0 : W4.cell? ⟨g_a, 0, none⟩ = some (.bool z1) := rblk_cell P_a 0
      have c_a1 : W4.cell? ⟨g_a, 1, none⟩ = some (.slice Aa Z1.length ca) := rblk_cell P_a 1
      have c_b0 : W4.cell? ⟨g_b, 0, none⟩ = some (.bool z2) := rblk_cell P_b 0
      have c_b1 : W4.cell? ⟨g_b, 1, none⟩ = some (.slice Ab Z2.length cb) := rblk_cell P_b 1
      go_wp2_with fail
      clear c_a0 c_a1 c_b0 c_b1
      refine (HA.out _ _ _ _ _ oa.rd ob.rd).mono ?_
      rintro e W5 ⟨An, cn, rfl, hcn, on, hb⟩
      replace P_r := rblk_below P_r hb
      replace P_s := rblk_below P_s hb
      replace P_o := rblk_below P_o hb
      replace P_a := rblk_below P_a hb
      replace P_b := rblk_below P_b hb
      replace oa := oa.below hb
      replace ob := ob.below hb
      replace kb := bt kb hb
      clear hb
      have P_n := heap_alloc_new W5 (.cells #[.bool zz, .slice An Z.length cn] 28)
      have nr_n : rr ≠ W5.heap.size := by have h1 := rblk_lt P_o; omega
      have hb := ba1 W5 (.cells #[.bool zz, .slice An Z.length cn] 28)
      replace P_r := rblk_below P_r hb
      replace P_s := rblk_below P_s hb
      replace P_o := rblk_below P_o hb
      replace P_a := rblk_below P_a hb
      replace P_b := rblk_below P_b hb
      replace oa := oa.below hb
      replace ob := ob.below hb
      replace on := on.below hb
      replace kb := bt kb hb
      clear hb
      have c_n0 : (W5.alloc (.cells #[.bool zz, .slice An Z.length cn] 28)).cell? ⟨W5.heap.size, 0, none⟩ = some (.bool zz) := rblk_cell P_n 0
      have c_n1 : (W5.alloc (.cells #[.bool zz, .slice An Z.length cn] 28)).cell? ⟨W5.heap.size, 1, none⟩ = some (.slice An Z.length cn) := rblk_cell P_n 1
      go_wp2_with fail
      clear c_n0 c_n1
      generalize W5.alloc (.cells #[.bool zz, .slice An Z.length cn] 28) = W6 at kb P_r P_s P_o P_a P_b P_n oa ob on ⊢
      have SB : Hid (∀ w', Keep3 W6 w' rr → (w'.cell? ⟨w.heap.size, 0, none⟩ = some (.bool pr) ∧ w'.cell? ⟨w.heap.size, 1, none⟩ = some (.slice A n c) ∧ w'.cell? ⟨w.heap.size, 2, none⟩ = some (.slice D k d) ∧ w'.cell? ⟨w.heap.size + 1, 0, none⟩ = some (.bool ps) ∧ w'.cell? ⟨w.heap.size + 1, 1, none⟩ = some (.slice A' n' c') ∧ w'.cell? ⟨w.heap.size + 1, 2, none⟩ = some (.slice D' k' d') ∧ w'.cell? ⟨W5.heap.size, 0, none⟩ = some (.bool zz) ∧ w'.cell? ⟨W5.heap.size, 1, none⟩ = some (.slice An Z.length cn) ∧ Keep3 W6 w' rr)) := Lib.hid (fun w' hK => ⟨rblk_cell (hK.block P_r nr_r) 0, rblk_cell (hK.block P_r nr_r) 1, rblk_cell (hK.block P_r nr_r) 2, rblk_cell (hK.block P_s nr_s) 0, rblk_cell (hK.block P_s nr_s) 1, rblk_cell (hK.block P_s nr_s) 2, rblk_cell (hK.block P_n nr_n) 0, rblk_cell (hK.block P_n nr_n) 1, hK⟩)
      have KW := Lib.hid kb
      have KST := Keep3.start P_o
      clear kb
      go_region_held3 (fun w' => w'.cell? ⟨w.heap.size, 0, none⟩ = some (.bool pr) ∧ w'.cell? ⟨w.heap.size, 1, none⟩ = some (.slice A n c) ∧ w'.cell? ⟨w.heap.size, 2, none⟩ = some (.slice D k d) ∧ w'.cell? ⟨w.heap.size + 1, 0, none⟩ = some (.bool ps) ∧ w'.cell? ⟨w.heap.size + 1, 1, none⟩ = some (.slice A' n' c') ∧ w'.cell? ⟨w.heap.size + 1, 2, none⟩ = some (.slice D' k' d') ∧ w'.cell? ⟨W5.heap.size, 0, none⟩ = some (.bool zz) ∧ w'.cell? ⟨W5.heap.size, 1, none⟩ = some (.slice An Z.length cn) ∧ Keep3 W6 w' rr)
        (first | (exact SB.out _ KST.drew) | (exact SB.out _ KST) | (exact SB.out _ (KST.below (ba1 _ _))) | (exact SB.out _ (KST.drew.below (ba1 _ _))) | (go_split_ands; exact SB.out _ (Keep3.below (by assumption : Keep3 W6 _ rr) hb)) | (go_split_ands; exact SB.out _ (Keep3.put3 (by assumption : Keep3 W6 _ rr) _ _ _)) | (go_split_ands; exact SB.out _ (Keep3.below (by assumption : Keep3 W6 _ rr) (ba1 _ _))))
        (first | (go_at_call 114; go_split_ands; ((with_reducible refine (M3.out _ (RR.out _ (Keep3.base (by assumption : Keep3 W6 _ rr) KW.out hrr3)).2.1 (RR.out _ (Keep3.base (by assumption : Keep3 W6 _ rr) KW.out hrr3)).2.2.2).mono ?_); rintro e Wn1_0 ⟨Ay, cy, rfl, hcy, oy, hb⟩; (first | replace on := on.below hb | replace on := (OwnS.drew' on).below hb | replace on := (on.below (ba1 _ _)).below hb | replace on := (OwnS.drew' (on.below (ba1 _ _))).below hb | replace on := ((OwnS.drew' on).below (ba1 _ _)).below hb))) | (go_at_call 113; go_split_ands; ((with_reducible refine (HL.out _ _ _ _ _ hcn hcy on.rd oy.rd).mono ?_); rintro e Wn1_1 ⟨A3, c3, D3, d3, rfl, hc3, hd3, o3, o4, hap3, hb⟩; have hltr := Keep3.lt (by assumption : Keep3 W6 _ rr); have KL := Keep3.below (by assumption : Keep3 W6 _ rr) hb; obtain ⟨u0, u1, u2, t0, t1, t2, t3, t4, t5⟩ := KL.cells)))
      all_goals
        have hfin := (‹_ ∧ _ ∧ _ ∧ _ ∧ _ ∧ _ ∧ _ ∧ _ ∧ Keep3 W6 _ rr›).2.2.2.2.2.2.2.2
        go_wp2
        exact bodyPost_ret (v := .agg #[.bool sg, .slice A3 L.length c3, .slice D3 M.length d3]) (by simp [results, Tryz.results85, go_sem, t0, t1, t2]) rfl ⟨A3, c3, D3, d3, rfl, hc3, hd3, (own_put3 o3 hltr _ _ _).more (Nat.le_trans hrr3 (Nat.le_of_lt hltr)), (own_put3 o4 hltr _ _ _).more (Nat.le_trans hrr3 (Nat.le_of_lt hltr)), hap3, hfin.base KW.out hrr3⟩

set_option maxHeartbeats 2000000 in
theorem laddR_yn (r s : Rat) (A D A' D' : Option Addr) (n k n' k' c d c' d' : Nat) (w : World) (hr : Fit r) (hs : Fit s) (hl : (zm r.num).length = n) (hm : (nd r.den).length = k) (hl' : (zm s.num).length = n') (hm' : (nd s.den).length = k')
    (hA : RdS w A (vi (zm r.num))) (hD : RdS w D (vi (nd r.den))) (hA' : RdS w A' (vi (zm s.num))) (hD' : RdS w D' (vi (nd s.den))) (h1 : r.den = 1) (h2 : s.den ≠ 1) :
    Calls Tryz.prog 85 #[.agg #[.bool (zn r.num), .slice A n c, .slice D k d], .agg #[.bool (zn s.num), .slice A' n' c', .slice D' k' d']] w (MadeR w.heap.size (qn (addQ r s)) (ql (addQ r s)) (qd (addQ r s)) w) := by
  have hr1 := hr.1; have hr2 := hr.2; have hs1 := hs.1; have hs2 := hs.2
  rw [zm_length] at hl hl'
  rw [nd_length] at hm hm'
  obtain ⟨y1, y2, hx, hy⟩ := add_sizes hr hs
  have M1 := Lib.hid (fun W h h' => spec_l02Mul r.num.natAbs s.den A D' n c k' d' W hl hm' (by omega) (by omega) h h')
  have M2 := Lib.hid (fun W h h' => spec_l02Mul s.num.natAbs r.den A' D n' c' k d W hl' hm (by omega) (by omega) h h')
  have M3 := Lib.hid (fun W h h' => spec_l02Mul r.den s.den D D' k d k' d' W hm hm' (by omega) (by omega) h h')
  have l1 : ln (r.num.natAbs * s.den) ≤ 60 := by have := ln_mul r.num.natAbs s.den; omega
  have l2 : ln (s.num.natAbs * r.den) ≤ 60 := by have := ln_mul s.num.natAbs r.den; omega
  have K1 := Lib.hid (fun W B e (hc : (nd (r.num.natAbs * s.den)).length ≤ e) (h : RdS W B (vi (nd (r.num.natAbs * s.den)))) => make_rd (zn r.num) _ (nd (r.num.natAbs * s.den)).length e B W (nd_length _).symm (by rw [nd_length]; omega) hc h)
  have K2 := Lib.hid (fun W B e (hc : (nd (s.num.natAbs * r.den)).length ≤ e) (h : RdS W B (vi (nd (s.num.natAbs * r.den)))) => make_rd (zn s.num) _ (nd (s.num.natAbs * r.den)).length e B W (nd_length _).symm (by rw [nd_length]; omega) hc h)
  obtain ⟨e1, e2⟩ := make_z (zn r.num) _ _ (sgn_mul r.num s.den) l1
  obtain ⟨e3, e4⟩ := make_z (zn s.num) _ _ (sgn_mul s.num r.den) l2
  rw [e1, e2] at K1
  rw [e3, e4] at K2
  have HA := Lib.hid (fun W B e B' e' h h' => ladd_z (r.num * s.den) (s.num * r.den) B B' (zm (r.num * s.den)).length e (zm (s.num * r.den)).length e' W (zm_length _).symm (zm_length _).symm (by rw [zm_length]; omega) (by rw [zm_length]; omega) h h')
  rw [show czi (r.num * s.den + s.num * r.den) = r.num * s.den + s.num * r.den from if_pos (by omega)] at HA
  unfold MadeZ MadeB at HA
  rw [show zm (r.num * s.den + s.num * r.den) = nd (r.num * s.den + s.num * r.den).natAbs from rfl] at HA
  have HL := Lib.hid (fun A D c d W (hc : (nd (r.num * s.den + s.num * r.den).natAbs).length ≤ c) (hd : (nd (r.den * s.den)).length ≤ d) h h' => spec_low (zn (r.num * s.den + s.num * r.den)) (r.num * s.den + s.num * r.den).natAbs (r.den * s.den) A D (nd (r.num * s.den + s.num * r.den).natAbs).length c (nd (r.den * s.den)).length d W (by rw [nd_length]; exact Nat.le_refl _) (by rw [nd_length]; exact Nat.le_refl _) (by rw [nd_length]; omega) (by rw [nd_length]; omega) hc hd h h')
  rw [low_add] at HL
  simp only [nd_length] at HL
  simp only [show ∀ v : Nat, row (ln v) v = nd v from fun v => rfl] at HL
  simp only [← nd_length] at HL
  have O1 := Lib.hid (fun W h => one_any (nd r.den) D k d W (by rw [nd_length]; exact hm) (by omega) h)
  have O2 := Lib.hid (fun W h => one_any (nd s.den) D' k' d' W (by rw [nd_length]; exact hm') (by omega) h)
  rw [show decide (nd r.den = [1]) = true from decide_eq_true (by rw [h1, nd_one])] at O1
  rw [show decide (nd s.den = [1]) = false from decide_eq_false (fun e => h2 (nd_inj (by rw [e, nd_one])))] at O2
  clear y1 y2 hx hy l1 l2 e1 e2 e3 e4 hr1 hr2 hs1 hs2 hl hl' hm hm' hr hs h1 h2
  generalize qn (addQ r s) = sg at HL ⊢
  generalize ql (addQ r s) = L at HL ⊢
  generalize qd (addQ r s) = M at HL ⊢
  generalize zn (r.num * s.den + s.num * r.den) = zz at HA HL
  generalize nd (r.num * s.den + s.num * r.den).natAbs = Z at HA HL
  generalize zm (r.num * s.den) = Z1 at K1 HA
  generalize zm (s.num * r.den) = Z2 at K2 HA
  generalize zn (r.num * s.den) = z1 at K1 HA
  generalize zn (s.num * r.den) = z2 at K2 HA
  generalize nd (r.num.natAbs * s.den) = X at M1 K1
  generalize nd (s.num.natAbs * r.den) = Y at M2 K2
  generalize nd (r.den * s.den) = V at M3 HL
  unfold zm at hA hA'
  generalize nd r.num.natAbs = La at *
  generalize nd s.num.natAbs = Lb at *
  generalize nd r.den = Da at *
  generalize nd s.den = Db at *
  have RR : Hid (∀ W, Below w.heap.size w W → RdS W A (vi La) ∧ RdS W D (vi Da) ∧ RdS W A' (vi Lb) ∧ RdS W D' (vi Db)) := Lib.hid (fun W hb => ⟨hA.below hb, hD.below hb, hA'.below hb, hD'.below hb⟩)
  clear hA hD hA' hD'
  generalize zn r.num = pr at K1 ⊢
  generalize zn s.num = ps at K2 ⊢
  go_enter Tryz.func85, Tryz.ntmps85
  go_wp2_with fail
  have kb := ba3 w (.cells #[.bool pr, .slice A n c, .slice D k d] 30) (.cells #[.bool ps, .slice A' n' c', .slice D' k' d'] 30) (.cells #[.bool false, .slice none 0 0, .slice none 0 0] 30)
  obtain ⟨P_r, P_s, P_o⟩ := blocks3 w (.cells #[.bool pr, .slice A n c, .slice D k d] 30) (.cells #[.bool ps, .slice A' n' c', .slice D' k' d'] 30) (.cells #[.bool false, .slice none 0 0, .slice none 0 0] 30)
  generalize ((w.alloc (.cells #[.bool pr, .slice A n c, .slice D k d] 30)).alloc (.cells #[.bool ps, .slice A' n' c', .slice D' k' d'] 30)).alloc (.cells #[.bool false, .slice none 0 0, .slice none 0 0] 30) = W1 at kb P_r P_s P_o ⊢
  obtain ⟨rr, hrr⟩ : ∃ r, r = w.heap.size + 1 + 1 := ⟨_, rfl⟩
  rw [← hrr] at P_o ⊢
  have hrr3 : w.heap.size ≤ rr := by omega
  have nr_r : rr ≠ w.heap.size := by omega
  have nr_s : rr ≠ w.heap.size + 1 := by omega
  clear hrr
  refine (O1.out _ (RR.out _ kb).2.1).mono ?_
  rintro e W2 ⟨rfl, hb⟩
  replace P_r := rblk_below P_r hb
  replace P_s := rblk_below P_s hb
  replace P_o := rblk_below P_o hb
  replace kb := bt kb hb
  clear hb
  have c_r0 : W2.cell? ⟨w.heap.size, 0, none⟩ = some (.bool pr) := rblk_cell P_r 0
  have c_r1 : W2.cell? ⟨w.heap.size, 1, none⟩ = some (.slice A n c) := rblk_cell P_r 1
  have c_r2 : W2.cell? ⟨w.heap.size, 2, none⟩ = some (.slice D k d) := rblk_cell P_r 2
  have c_s0 : W2.cell? ⟨w.heap.size + 1, 0, none⟩ = some (.bool ps) := rblk_cell P_s 0
  have c_s1 : W2.cell? ⟨w.heap.size + 1, 1, none⟩ = some (.slice A' n' c') := rblk_cell P_s 1
  have c_s2 : W2.cell? ⟨w.heap.size + 1, 2, none⟩ = some (.slice D' k' d') := rblk_cell P_s 2
  go_wp2_with fail
  clear c_r0 c_r1 c_r2 c_s0 c_s1 c_s2
  refine (O2.out _ (RR.out _ kb).2.2.2).mono ?_
  rintro e W3 ⟨rfl, hb⟩
  replace P_r := rblk_below P_r hb
  replace P_s := rblk_below P_s hb
  replace P_o := rblk_below P_o hb
  replace kb := bt kb hb
  clear hb
  have c_r0 : W3.cell? ⟨w.heap.size, 0, none⟩ = some (.bool pr) := rblk_cell P_r 0
  have c_r1 : W3.cell? ⟨w.heap.size, 1, none⟩ = some (.slice A n c) := rblk_cell P_r 1
  have c_r2 : W3.cell? ⟨w.heap.size, 2, none⟩ = some (.slice D k d) := rblk_cell P_r 2
  have c_s0 : W3.cell? ⟨w.heap.size + 1, 0, none⟩ = some (.bool ps) := rblk_cell P_s 0
  have c_s1 : W3.cell? ⟨w.heap.size + 1, 1, none⟩ = some (.slice A' n' c') := rblk_cell P_s 1
  have c_s2 : W3.cell? ⟨w.heap.size + 1, 2, none⟩ = some (.slice D' k' d') := rblk_cell P_s 2
  go_wp2_with fail
  clear c_r0 c_r1 c_r2 c_s0 c_s1 c_s2
  have SB : Hid (∀ w', Below W3.heap.size W3 w' → (w'.cell? ⟨w.heap.size, 0, none⟩ = some (.bool pr) ∧ w'.cell? ⟨w.heap.size, 1, none⟩ = some (.slice A n c) ∧ w'.cell? ⟨w.heap.size, 2, none⟩ = some (.slice D k d) ∧ w'.cell? ⟨w.heap.size + 1, 0, none⟩ = some (.bool ps) ∧ w'.cell? ⟨w.heap.size + 1, 1, none⟩ = some (.slice A' n' c') ∧ w'.cell? ⟨w.heap.size + 1, 2, none⟩ = some (.slice D' k' d') ∧ Below W3.heap.size W3 w')) := Lib.hid (fun w' hB => ⟨rblk_cell (rblk_below P_r hB) 0, rblk_cell (rblk_below P_r hB) 1, rblk_cell (rblk_below P_r hB) 2, rblk_cell (rblk_below P_s hB) 0, rblk_cell (rblk_below P_s hB) 1, rblk_cell (rblk_below P_s hB) 2, hB⟩)
  have KW := Lib.hid kb
  go_cut [6] (fun sv wx => CutP W3 28 (z1) (Z1) sv wx)
  case first =>
    clear kb
    go_region_held3 (fun w' => w'.cell? ⟨w.heap.size, 0, none⟩ = some (.bool pr) ∧ w'.cell? ⟨w.heap.size, 1, none⟩ = some (.slice A n c) ∧ w'.cell? ⟨w.heap.size, 2, none⟩ = some (.slice D k d) ∧ w'.cell? ⟨w.heap.size + 1, 0, none⟩ = some (.bool ps) ∧ w'.cell? ⟨w.heap.size + 1, 1, none⟩ = some (.slice A' n' c') ∧ w'.cell? ⟨w.heap.size + 1, 2, none⟩ = some (.slice D' k' d') ∧ Below W3.heap.size W3 w')
      (first | (exact SB.out _ (Below.refl _ _).drew) | (exact SB.out _ (ba1 _ _).drew) | (exact SB.out _ (ba1 _ _)) | (go_split_ands; exact SB.out _ (bt (by assumption : Below W3.heap.size W3 _) hb)) | (go_split_ands; exact SB.out _ (Below.alloc (by assumption : Below W3.heap.size W3 _) (Below.size (by assumption : Below W3.heap.size W3 _)) _)) | (go_split_ands; exact SB.out _ (below_put2 (by assumption : Below W3.heap.size W3 _) (by first | exact Nat.le_refl _ | assumption) _ _)))
      (first | (go_at_call 114; go_split_ands; ((with_reducible refine (M1.out _ (RR.out _ (bt KW.out (by assumption : Below W3.heap.size W3 _))).1 (RR.out _ (bt KW.out (by assumption : Below W3.heap.size W3 _))).2.2.2).mono ?_); rintro e Wn0 ⟨Ax, cx, rfl, hcx, ox, hb⟩; have hs0 := (bt (by assumption : Below W3.heap.size W3 _) hb).size; (first | (have tt := (tt_a hb).1; have hgB := (tt_a hb).2) | (have tt := (tt_b hb).1; have hgB := (tt_b hb).2) | (have hgB := (tt_c tt hb).2; replace tt := (tt_c tt hb).1) | skip); skip)) | (go_at_call 105; go_split_ands; ((with_reducible refine (K1.out _ _ _ hcx (by first | exact ox.rd | exact (OwnS.drew' ox).rd | exact (ox.below (ba1 _ _)).rd | exact (OwnS.drew' (ox.below (ba1 _ _))).rd | exact ((OwnS.drew' ox).below (ba1 _ _)).rd)).mono ?_); rintro e Wn1 ⟨Aa, ca, rfl, hca, oa, hb⟩; skip; have KB0 := (by assumption : Below W3.heap.size W3 _); have KB := bt KB0 hb; have hsC := KB.size; have hoa := oa.more KB0.size; (first | (have tt := (tt_a hb).1; have hgB := (tt_a hb).2) | (have tt := (tt_b hb).1; have hgB := (tt_b hb).2) | (have hgB := (tt_c tt hb).2; replace tt := (tt_c tt hb).1) | skip); (first | (have t0 := rblk_cell tt 0; have q0 := rblk_free tt 0; have t1 := rblk_cell tt 1; have q1 := rblk_free tt 1) | skip))))
    all_goals (go_wp2_with fail; go_meet; first | exact ⟨_, Aa, ca, rfl, hsC, hca, heap_alloc_new _ _, hoa.below (ba1 _ _), KB.alloc KB.size _⟩ | exact ⟨_, Aa, ca, rfl, (by first | exact Nat.le_refl _ | assumption), hca, rblk_set (rblk_set tt 0 _) 1 _, (own_put2 oa hgB _ _).more KB0.size, below_put2 KB (by first | exact Nat.le_refl _ | assumption) _ _⟩)
  case rest =>
    obtain ⟨g_a, Aa, ca, rfl, hlo_a, hca, P_a, oa, hb⟩ := hcut
    have nr_a : rr ≠ g_a := by have h1 := rblk_lt P_o; omega
    obtain ⟨W4, hWn⟩ : ∃ W', W' = wc := ⟨_, rfl⟩
    subst hWn
    replace P_r := rblk_below P_r hb
    replace P_s := rblk_below P_s hb
    replace P_o := rblk_below P_o hb
    replace kb := bt kb hb
    clear hb KW SB
    go_wp2_with fail
    have SB : Hid (∀ w', Below W4.heap.size W4 w' → (w'.cell? ⟨w.heap.size, 0, none⟩ = some (.bool pr) ∧ w'.cell? ⟨w.heap.size, 1, none⟩ = some (.slice A n c) ∧ w'.cell? ⟨w.heap.size, 2, none⟩ = some (.slice D k d) ∧ w'.cell? ⟨w.heap.size + 1, 0, none⟩ = some (.bool ps) ∧ w'.cell? ⟨w.heap.size + 1, 1, none⟩ = some (.slice A' n' c') ∧ w'.cell? ⟨w.heap.size + 1, 2, none⟩ = some (.slice D' k' d') ∧ Below W4.heap.size W4 w')) := Lib.hid (fun w' hB => ⟨rblk_cell (rblk_below P_r hB) 0, rblk_cell (rblk_below P_r hB) 1, rblk_cell (rblk_below P_r hB) 2, rblk_cell (rblk_below P_s hB) 0, rblk_cell (rblk_below P_s hB) 1, rblk_cell (rblk_below P_s hB) 2, hB⟩)
    have KW := Lib.hid kb
    go_cut [7] (fun sv wx => CutP W4 28 (z2) (Z2) sv wx)
    case first =>
      clear kb
      go_region_held3 (fun w' => w'.cell? ⟨w.heap.size, 0, none⟩ = some (.bool pr) ∧ w'.cell? ⟨w.heap.size, 1, none⟩ = some (.slice A n c) ∧ w'.cell? ⟨w.heap.size, 2, none⟩ = some (.slice D k d) ∧ w'.cell? ⟨w.heap.size + 1, 0, none⟩ = some (.bool ps) ∧ w'.cell? ⟨w.heap.size + 1, 1, none⟩ = some (.slice A' n' c') ∧ w'.cell? ⟨w.heap.size + 1, 2, none⟩ = some (.slice D' k' d') ∧ Below W4.heap.size W4 w')
        (first | (exact SB.out _ (Below.refl _ _).drew) | (exact SB.out _ (ba1 _ _).drew) | (exact SB.out _ (ba1 _ _)) | (go_split_ands; exact SB.out _ (bt (by assumption : Below W4.heap.size W4 _) hb)) | (go_split_ands; exact SB.out _ (Below.alloc (by assumption : Below W4.heap.size W4 _) (Below.size (by assumption : Below W4.heap.size W4 _)) _)) | (go_split_ands; exact SB.out _ (below_put2 (by assumption : Below W4.heap.size W4 _) (by first | exact Nat.le_refl _ | assumption) _ _)))
        (first | (go_at_call 114; go_split_ands; ((with_reducible refine (M2.out _ (RR.out _ (bt KW.out (by assumption : Below W4.heap.size W4 _))).2.2.1 (RR.out _ (bt KW.out (by assumption : Below W4.heap.size W4 _))).2.1).mono ?_); rintro e Wn0 ⟨Ax, cx, rfl, hcx, ox, hb⟩; have hs0 := (bt (by assumption : Below W4.heap.size W4 _) hb).size; (first | (have tt := (tt_a hb).1; have hgB := (tt_a hb).2) | (have tt := (tt_b hb).1; have hgB := (tt_b hb).2) | (have hgB := (tt_c tt hb).2; replace tt := (tt_c tt hb).1) | skip); skip)) | (go_at_call 105; go_split_ands; ((with_reducible refine (K2.out _ _ _ hcx (by first | exact ox.rd | exact (OwnS.drew' ox).rd | exact (ox.below (ba1 _ _)).rd | exact (OwnS.drew' (ox.below (ba1 _ _))).rd | exact ((OwnS.drew' ox).below (ba1 _ _)).rd)).mono ?_); rintro e Wn1 ⟨Ab, cb, rfl, hcb, ob, hb⟩; skip; have KB0 := (by assumption : Below W4.heap.size W4 _); have KB := bt KB0 hb; have hsC := KB.size; have hob := ob.more KB0.size; (first | (have tt := (tt_a hb).1; have hgB := (tt_a hb).2) | (have tt := (tt_b hb).1; have hgB := (tt_b hb).2) | (have hgB := (tt_c tt hb).2; replace tt := (tt_c tt hb).1) | skip); (first | (have t0 := rblk_cell tt 0; have q0 := rblk_free tt 0; have t1 := rblk_cell tt 1; have q1 := rblk_free tt 1) | skip))))
      all_goals (go_wp2_with fail; go_meet; first | exact ⟨_, Ab, cb, rfl, hsC, hcb, heap_alloc_new _ _, hob.below (ba1 _ _), KB.alloc KB.size _⟩ | exact ⟨_, Ab, cb, rfl, (by first | exact Nat.le_refl _ | assumption), hcb, rblk_set (rblk_set tt 0 _) 1 _, (own_put2 ob hgB _ _).more KB0.size, below_put2 KB (by first | exact Nat.le_refl _ | assumption) _ _⟩)
    case rest =>
      obtain ⟨g_b, Ab, cb, rfl, hlo_b, hcb, P_b, ob, hb⟩ := hcut
      have nr_b : rr ≠ g_b := by have h1 := rblk_lt P_o; omega
      obtain ⟨W5, hWn⟩ : ∃ W', W' = wc := ⟨_, rfl⟩
      subst hWn
      replace P_r := rblk_below P_r hb
      replace P_s := rblk_below P_s hb
      replace P_o := rblk_below P_o hb
      replace P_a := rblk_below P_a hb
      replace oa := oa.below hb
      replace kb := bt kb hb
      clear hb KW SB
      have c_a0 : W5.cell? ⟨g_a, 0, none⟩ = some (.bool z1) := rblk_cell P_a 0
      have c_a1 : W5.cell? ⟨g_a, 1, none⟩ = some (.slice Aa Z1.length ca) := rblk_cell P_a 1
      have c_b0 : W5.cell? ⟨g_b, 0, none⟩ = some (.bool z2) := rblk_cell P_b 0
      have c_b1 : W5.cell? ⟨g_b, 1, none⟩ = some (.slice Ab Z2.length cb) := rblk_cell P_b 1
      go_wp2_with fail
      clear c_a0 c_a1 c_b0 c_b1
      refine (HA.out _ _ _ _ _ oa.rd ob.rd).mono ?_
      rintro e W6 ⟨An, cn, rfl, hcn, on, hb⟩
      replace P_r := rblk_below P_r hb
      replace P_s := rblk_below P_s hb
      replace P_o := rblk_below P_o hb
      replace P_a := rblk_below P_a hb
      replace P_b := rblk_below P_b hb
      replace oa := oa.below hb
      replace ob := ob.below hb
      replace kb := bt kb hb
      clear hb
      have P_n := heap_alloc_new W6 (.cells #[.bool zz, .slice An Z.length cn] 28)
      have nr_n : rr ≠ W6.heap.size := by have h1 := rblk_lt P_o; omega
      have hb := ba1 W6 (.cells #[.bool zz, .slice An Z.length cn] 28)
      replace P_r := rblk_below P_r hb
      replace P_s := rblk_below P_s hb
      replace P_o := rblk_below P_o hb
      replace P_a := rblk_below P_a hb
      replace P_b := rblk_below P_b hb
      replace oa := oa.below hb
      replace ob := ob.below hb
      replace on := on.below hb
      replace kb := bt kb hb
      clear hb
      have c_n0 : (W6.alloc (.cells #[.bool zz, .slice An Z.length cn] 28)).cell? ⟨W6.heap.size, 0, none⟩ = some (.bool zz) := rblk_cell P_n 0
      have c_n1 : (W6.alloc (.cells #[.bool zz, .slice An Z.length cn] 28)).cell? ⟨W6.heap.size, 1, none⟩ = some (.slice An Z.length cn) := rblk_cell P_n 1
      go_wp2_with fail
      clear c_n0 c_n1
      generalize W6.alloc (.cells #[.bool zz, .slice An Z.length cn] 28) = W7 at kb P_r P_s P_o P_a P_b P_n oa ob on ⊢
      have SB : Hid (∀ w', Keep3 W7 w' rr → (w'.cell? ⟨w.heap.size, 0, none⟩ = some (.bool pr) ∧ w'.cell? ⟨w.heap.size, 1, none⟩ = some (.slice A n c) ∧ w'.cell? ⟨w.heap.size, 2, none⟩ = some (.slice D k d) ∧ w'.cell? ⟨w.heap.size + 1, 0, none⟩ = some (.bool ps) ∧ w'.cell? ⟨w.heap.size + 1, 1, none⟩ = some (.slice A' n' c') ∧ w'.cell? ⟨w.heap.size + 1, 2, none⟩ = some (.slice D' k' d') ∧ w'.cell? ⟨W6.heap.size, 0, none⟩ = some (.bool zz) ∧ w'.cell? ⟨W6.heap.size, 1, none⟩ = some (.slice An Z.length cn) ∧ Keep3 W7 w' rr)) := Lib.hid (fun w' hK => ⟨rblk_cell (hK.block P_r nr_r) 0, rblk_cell (hK.block P_r nr_r) 1, rblk_cell (hK.block P_r nr_r) 2, rblk_cell (hK.block P_s nr_s) 0, rblk_cell (hK.block P_s nr_s) 1, rblk_cell (hK.block P_s nr_s) 2, rblk_cell (hK.block P_n nr_n) 0, rblk_cell (hK.block P_n nr_n) 1, hK⟩)
      have KW := Lib.hid kb
      have KST := Keep3.start P_o
      clear kb
      go_region_held3 (fun w' => w'.cell? ⟨w.heap.size, 0, none⟩ = some (.bool pr) ∧ w'.cell? ⟨w.heap.size, 1, none⟩ = some (.slice A n c) ∧ w'.cell? ⟨w.heap.size, 2, none⟩ = some (.slice D k d) ∧ w'.cell? ⟨w.heap.size + 1, 0, none⟩ = some (.bool ps) ∧ w'.cell? ⟨w.heap.size + 1, 1, none⟩ = some (.slice A' n' c') ∧ w'.cell? ⟨w.heap.size + 1, 2, none⟩ = some (.slice D' k' d') ∧ w'.cell? ⟨W6.heap.size, 0, none⟩ = some (.bool zz) ∧ w'.cell? ⟨W6.heap.size, 1, none⟩ = some (.slice An Z.length cn) ∧ Keep3 W7 w' rr)
        (first | (exact SB.out _ KST.drew) | (exact SB.out _ KST) | (exact SB.out _ (KST.below (ba1 _ _))) | (exact SB.out _ (KST.drew.below (ba1 _ _))) | (go_split_ands; exact SB.out _ (Keep3.below (by assumption : Keep3 W7 _ rr) hb)) | (go_split_ands; exact SB.out _ (Keep3.put3 (by assumption : Keep3 W7 _ rr) _ _ _)) | (go_split_ands; exact SB.out _ (Keep3.below (by assumption : Keep3 W7 _ rr) (ba1 _ _))))
        (first | (go_at_call 114; go_split_ands; ((with_reducible refine (M3.out _ (RR.out _ (Keep3.base (by assumption : Keep3 W7 _ rr) KW.out hrr3)).2.1 (RR.out _ (Keep3.base (by assumption : Keep3 W7 _ rr) KW.out hrr3)).2.2.2).mono ?_); rintro e Wn1_0 ⟨Ay, cy, rfl, hcy, oy, hb⟩; (first | replace on := on.below hb | replace on := (OwnS.drew' on).below hb | replace on := (on.below (ba1 _ _)).below hb | replace on := (OwnS.drew' (on.below (ba1 _ _))).below hb | replace on := ((OwnS.drew' on).below (ba1 _ _)).below hb))) | (go_at_call 113; go_split_ands; ((with_reducible refine (HL.out _ _ _ _ _ hcn hcy on.rd oy.rd).mono ?_); rintro e Wn1_1 ⟨A3, c3, D3, d3, rfl, hc3, hd3, o3, o4, hap3, hb⟩; have hltr := Keep3.lt (by assumption : Keep3 W7 _ rr); have KL := Keep3.below (by assumption : Keep3 W7 _ rr) hb; obtain ⟨u0, u1, u2, t0, t1, t2, t3, t4, t5⟩ := KL.cells)))
      all_goals
        have hfin := (‹_ ∧ _ ∧ _ ∧ _ ∧ _ ∧ _ ∧ _ ∧ _ ∧ Keep3 W7 _ rr›).2.2.2.2.2.2.2.2
        go_wp2
        exact bodyPost_ret (v := .agg #[.bool sg, .slice A3 L.length c3, .slice D3 M.length d3]) (by simp [results, Tryz.results85, go_sem, t0, t1, t2]) rfl ⟨A3, c3, D3, d3, rfl, hc3, hd3, (own_put3 o3 hltr _ _ _).more (Nat.le_trans hrr3 (Nat.le_of_lt hltr)), (own_put3 o4 hltr _ _ _).more (Nat.le_trans hrr3 (Nat.le_of_lt hltr)), hap3, hfin.base KW.out hrr3⟩

theorem laddR_any (r s : Rat) (A D A' D' : Option Addr) (n k n' k' c d c' d' : Nat) (w : World) (hr : Fit r) (hs : Fit s) (hl : (zm r.num).length = n) (hm : (nd r.den).length = k) (hl' : (zm s.num).length = n') (hm' : (nd s.den).length = k')
    (hA : RdS w A (vi (zm r.num))) (hD : RdS w D (vi (nd r.den))) (hA' : RdS w A' (vi (zm s.num))) (hD' : RdS w D' (vi (nd s.den))) :
    Calls Tryz.prog 85 #[.agg #[.bool (zn r.num), .slice A n c, .slice D k d], .agg #[.bool (zn s.num), .slice A' n' c', .slice D' k' d']] w (MadeR w.heap.size (qn (addQ r s)) (ql (addQ r s)) (qd (addQ r s)) w) := by
  by_cases h1 : r.den = 1
  · by_cases h2 : s.den = 1
    · exact laddR_yy r s A D A' D' n k n' k' c d c' d' w hr hs hl hm hl' hm' hA hD hA' hD' h1 h2
    · exact laddR_yn r s A D A' D' n k n' k' c d c' d' w hr hs hl hm hl' hm' hA hD hA' hD' h1 h2
  · exact laddR_n r s A D A' D' n k n' k' c d c' d' w hr hs hl hm hl' hm' hA hD hA' hD' h1
end Go.Proofs.YtennekieiioilaaGreat

namespace Go.Proofs.YtennekieiioilaaGreat
open Go.ChangeShapes Go.WideShapes Go.ChangeAt Go.RowKit
open Go.ChangeMaps (open_string shut_string)
set_option linter.unusedVariables false
set_option linter.unusedSimpArgs false
set_option maxRecDepth 4000

attribute [local go_sem ↓] Go.wp_at_zero Go.wp_at_succ

set_option maxHeartbeats 1000000 in
theorem spec_radd_yes (pr ps : Bool) (l m l' m' : List Int) (A D A' D' : Option Addr) (n k n' k' c d c' d' : Nat) (w : World) (hl : l.length = n) (hm : m.length = k) (hl' : l'.length = n') (hm' : m'.length = k')
    (hn : n ≤ 9223372036854775807) (hk : k ≤ 9223372036854775807) (hn' : n' ≤ 9223372036854775807) (hk' : k' ≤ 9223372036854775807)
    (hA : RdS w A (vi l)) (hD : RdS w D (vi m)) (hA' : RdS w A' (vi l')) (hD' : RdS w D' (vi m')) (h1 : okR pr l m = true) (h2 : okR ps l' m' = true) :
    Calls Tryz.prog 64 #[.agg #[.bool pr, .slice A n c, .slice D k d], .agg #[.bool ps, .slice A' n' c', .slice D' k' d']] w (MadeR w.heap.size (qn (binQ addQ (valQ pr l m) (valQ ps l' m'))) (ql (binQ addQ (valQ pr l m) (valQ ps l' m'))) (qd (binQ addQ (valQ pr l m) (valQ ps l' m'))) w) := by
  have H1 := Lib.hid (fun W h h' => spec_rok pr l m A D n c k d W hl hm hn hk h h')
  have H2 := Lib.hid (fun W h h' => spec_rok ps l' m' A' D' n' c' k' d' W hl' hm' hn' hk' h h')
  obtain ⟨r, e1, e2, e3, hr⟩ := okR_q h1
  obtain ⟨s, e4, e5, e6, hs⟩ := okR_q h2
  have hv : binQ addQ (valQ pr l m) (valQ ps l' m') = addQ r s := by rw [e1, e2, e3, e4, e5, e6, valQ_yes hr, valQ_yes hs]; rfl
  have HC := Lib.hid (fun W a b a' b' => laddR_any r s A D A' D' n k n' k' c d c' d' W hr hs (by rw [← e2]; exact hl) (by rw [← e3]; exact hm) (by rw [← e5]; exact hl') (by rw [← e6]; exact hm') a b a' b')
  rw [← e1, ← e4] at HC
  rw [← e2, ← e3, ← e5, ← e6] at HC
  rw [hv]
  rw [h1] at H1
  rw [h2] at H2
  have RR : Hid (∀ W, Below w.heap.size w W → RdS W A (vi l) ∧ RdS W D (vi m) ∧ RdS W A' (vi l') ∧ RdS W D' (vi m')) := Lib.hid (fun W hb => ⟨hA.below hb, hD.below hb, hA'.below hb, hD'.below hb⟩)
  clear hv e1 e2 e3 e4 e5 e6 h1 h2 hr hs hA hD hA' hD' hl hm hl' hm' hn hk hn' hk'
  generalize qn (addQ r s) = sg at HC ⊢
  generalize ql (addQ r s) = L at HC ⊢
  generalize qd (addQ r s) = M at HC ⊢
  go_enter Tryz.func64, Tryz.ntmps64
  go_wp2_with fail
  have kb := ba3 w (.cells #[.bool pr, .slice A n c, .slice D k d] 30) (.cells #[.bool ps, .slice A' n' c', .slice D' k' d'] 30) (.cells #[.bool false, .slice none 0 0, .slice none 0 0] 30)
  obtain ⟨P_r, P_s, P_o⟩ := blocks3 w (.cells #[.bool pr, .slice A n c, .slice D k d] 30) (.cells #[.bool ps, .slice A' n' c', .slice D' k' d'] 30) (.cells #[.bool false, .slice none 0 0, .slice none 0 0] 30)
  generalize ((w.alloc (.cells #[.bool pr, .slice A n c, .slice D k d] 30)).alloc (.cells #[.bool ps, .slice A' n' c', .slice D' k' d'] 30)).alloc (.cells #[.bool false, .slice none 0 0, .slice none 0 0] 30) = W1 at kb P_r P_s P_o ⊢
  obtain ⟨rr, hrr⟩ : ∃ r, r = w.heap.size + 1 + 1 := ⟨_, rfl⟩
  rw [← hrr] at P_o ⊢
  have hrr3 : w.heap.size ≤ rr := by omega
  have nr_r : rr ≠ w.heap.size := by omega
  have nr_s : rr ≠ w.heap.size + 1 := by omega
  clear hrr
  refine (H1.out _ (RR.out _ kb).1 (RR.out _ kb).2.1).mono ?_
  rintro e W2 ⟨rfl, hb⟩
  replace P_r := rblk_below P_r hb
  replace P_s := rblk_below P_s hb
  replace P_o := rblk_below P_o hb
  replace kb := bt kb hb
  clear hb
  have c_r0 : W2.cell? ⟨w.heap.size, 0, none⟩ = some (.bool pr) := rblk_cell P_r 0
  have c_r1 : W2.cell? ⟨w.heap.size, 1, none⟩ = some (.slice A n c) := rblk_cell P_r 1
  have c_r2 : W2.cell? ⟨w.heap.size, 2, none⟩ = some (.slice D k d) := rblk_cell P_r 2
  have c_s0 : W2.cell? ⟨w.heap.size + 1, 0, none⟩ = some (.bool ps) := rblk_cell P_s 0
  have c_s1 : W2.cell? ⟨w.heap.size + 1, 1, none⟩ = some (.slice A' n' c') := rblk_cell P_s 1
  have c_s2 : W2.cell? ⟨w.heap.size + 1, 2, none⟩ = some (.slice D' k' d') := rblk_cell P_s 2
  go_wp2_with fail
  clear c_r0 c_r1 c_r2 c_s0 c_s1 c_s2
  refine (H2.out _ (RR.out _ kb).2.2.1 (RR.out _ kb).2.2.2).mono ?_
  rintro e W3 ⟨rfl, hb⟩
  replace P_r := rblk_below P_r hb
  replace P_s := rblk_below P_s hb
  replace P_o := rblk_below P_o hb
  replace kb := bt kb hb
  clear hb
  have c_r0 : W3.cell? ⟨w.heap.size, 0, none⟩ = some (.bool pr) := rblk_cell P_r 0
  have c_r1 : W3.cell? ⟨w.heap.size, 1, none⟩ = some (.slice A n c) := rblk_cell P_r 1
  have c_r2 : W3.cell? ⟨w.heap.size, 2, none⟩ = some (.slice D k d) := rblk_cell P_r 2
  have c_s0 : W3.cell? ⟨w.heap.size + 1, 0, none⟩ = some (.bool ps) := rblk_cell P_s 0
  have c_s1 : W3.cell? ⟨w.heap.size + 1, 1, none⟩ = some (.slice A' n' c') := rblk_cell P_s 1
  have c_s2 : W3.cell? ⟨w.heap.size + 1, 2, none⟩ = some (.slice D' k' d') := rblk_cell P_s 2
  go_wp2_with fail
  clear c_r0 c_r1 c_r2 c_s0 c_s1 c_s2
  have hltr := rblk_lt P_o
  refine (HC.out _ (RR.out _ kb).1 (RR.out _ kb).2.1 (RR.out _ kb).2.2.1 (RR.out _ kb).2.2.2).mono ?_
  rintro e W4 ⟨A3, c3, D3, d3, rfl, hc3, hd3, o3, o4, hap3, hb⟩
  replace P_r := rblk_below P_r hb
  replace P_s := rblk_below P_s hb
  replace P_o := rblk_below P_o hb
  replace kb := bt kb hb
  clear hb
  have c_o0 : W4.cell? ⟨rr, 0, none⟩ = some (.bool false) := rblk_cell P_o 0
  have c_o1 : W4.cell? ⟨rr, 1, none⟩ = some (.slice none 0 0) := rblk_cell P_o 1
  have c_o2 : W4.cell? ⟨rr, 2, none⟩ = some (.slice none 0 0) := rblk_cell P_o 2
  have f_o0 := rblk_free P_o 0
  have f_o1 := rblk_free P_o 1
  have f_o2 := rblk_free P_o 2
  go_wp2
  exact bodyPost_ret (v := .agg #[.bool sg, .slice A3 L.length c3, .slice D3 M.length d3]) (by simp [results, Tryz.results64, go_sem, c_o0, c_o1, c_o2]) rfl ⟨A3, c3, D3, d3, rfl, hc3, hd3, (own_put3 o3 hltr _ _ _).more (Nat.le_trans hrr3 (Nat.le_of_lt hltr)), (own_put3 o4 hltr _ _ _).more (Nat.le_trans hrr3 (Nat.le_of_lt hltr)), hap3, below_put3 kb hrr3 _ _ _⟩

set_option maxHeartbeats 1000000 in
theorem spec_radd_n1 (pr ps : Bool) (l m l' m' : List Int) (A D A' D' : Option Addr) (n k n' k' c d c' d' : Nat) (w : World) (hl : l.length = n) (hm : m.length = k) (hl' : l'.length = n') (hm' : m'.length = k')
    (hn : n ≤ 9223372036854775807) (hk : k ≤ 9223372036854775807) (hn' : n' ≤ 9223372036854775807) (hk' : k' ≤ 9223372036854775807)
    (hA : RdS w A (vi l)) (hD : RdS w D (vi m)) (hA' : RdS w A' (vi l')) (hD' : RdS w D' (vi m')) (h1 : okR pr l m = false) :
    Calls Tryz.prog 64 #[.agg #[.bool pr, .slice A n c, .slice D k d], .agg #[.bool ps, .slice A' n' c', .slice D' k' d']] w (MadeR w.heap.size false [] [] w) := by
  have H1 := Lib.hid (fun W h h' => spec_rok pr l m A D n c k d W hl hm hn hk h h')
  have H2 := Lib.hid (fun W h h' => spec_rok ps l' m' A' D' n' c' k' d' W hl' hm' hn' hk' h h')
  rw [h1] at H1
  have RR : Hid (∀ W, Below w.heap.size w W → RdS W A (vi l) ∧ RdS W D (vi m) ∧ RdS W A' (vi l') ∧ RdS W D' (vi m')) := Lib.hid (fun W hb => ⟨hA.below hb, hD.below hb, hA'.below hb, hD'.below hb⟩)
  clear H2 h1 hA hD hA' hD' hl hm hl' hm' hn hk hn' hk'
  go_enter Tryz.func64, Tryz.ntmps64
  go_wp2_with fail
  have kb := ba3 w (.cells #[.bool pr, .slice A n c, .slice D k d] 30) (.cells #[.bool ps, .slice A' n' c', .slice D' k' d'] 30) (.cells #[.bool false, .slice none 0 0, .slice none 0 0] 30)
  obtain ⟨P_r, P_s, P_o⟩ := blocks3 w (.cells #[.bool pr, .slice A n c, .slice D k d] 30) (.cells #[.bool ps, .slice A' n' c', .slice D' k' d'] 30) (.cells #[.bool false, .slice none 0 0, .slice none 0 0] 30)
  generalize ((w.alloc (.cells #[.bool pr, .slice A n c, .slice D k d] 30)).alloc (.cells #[.bool ps, .slice A' n' c', .slice D' k' d'] 30)).alloc (.cells #[.bool false, .slice none 0 0, .slice none 0 0] 30) = W1 at kb P_r P_s P_o ⊢
  obtain ⟨rr, hrr⟩ : ∃ r, r = w.heap.size + 1 + 1 := ⟨_, rfl⟩
  rw [← hrr] at P_o ⊢
  have hrr3 : w.heap.size ≤ rr := by omega
  have nr_r : rr ≠ w.heap.size := by omega
  have nr_s : rr ≠ w.heap.size + 1 := by omega
  clear hrr
  refine (H1.out _ (RR.out _ kb).1 (RR.out _ kb).2.1).mono ?_
  rintro e W2 ⟨rfl, hb⟩
  replace P_r := rblk_below P_r hb
  replace P_s := rblk_below P_s hb
  replace P_o := rblk_below P_o hb
  replace kb := bt kb hb
  clear hb
  have c_r0 : W2.cell? ⟨w.heap.size, 0, none⟩ = some (.bool pr) := rblk_cell P_r 0
  have c_r1 : W2.cell? ⟨w.heap.size, 1, none⟩ = some (.slice A n c) := rblk_cell P_r 1
  have c_r2 : W2.cell? ⟨w.heap.size, 2, none⟩ = some (.slice D k d) := rblk_cell P_r 2
  have c_s0 : W2.cell? ⟨w.heap.size + 1, 0, none⟩ = some (.bool ps) := rblk_cell P_s 0
  have c_s1 : W2.cell? ⟨w.heap.size + 1, 1, none⟩ = some (.slice A' n' c') := rblk_cell P_s 1
  have c_s2 : W2.cell? ⟨w.heap.size + 1, 2, none⟩ = some (.slice D' k' d') := rblk_cell P_s 2
  have c_o0 : W2.cell? ⟨rr, 0, none⟩ = some (.bool false) := rblk_cell P_o 0
  have c_o1 : W2.cell? ⟨rr, 1, none⟩ = some (.slice none 0 0) := rblk_cell P_o 1
  have c_o2 : W2.cell? ⟨rr, 2, none⟩ = some (.slice none 0 0) := rblk_cell P_o 2
  have f_o0 := rblk_free P_o 0
  have f_o1 := rblk_free P_o 1
  have f_o2 := rblk_free P_o 2
  go_wp2
  exact bodyPost_ret (v := .agg #[.bool false, .slice none 0 0, .slice none 0 0]) (by simp [results, Tryz.results64, go_sem, c_o0, c_o1, c_o2]) rfl ⟨none, 0, none, 0, rfl, Nat.le_refl _, Nat.le_refl _, .inl rfl, .inl rfl, (fun a h => by simp [rowOf] at h), below_put3 kb hrr3 _ _ _⟩

set_option maxHeartbeats 1000000 in
theorem spec_radd_n2 (pr ps : Bool) (l m l' m' : List Int) (A D A' D' : Option Addr) (n k n' k' c d c' d' : Nat) (w : World) (hl : l.length = n) (hm : m.length = k) (hl' : l'.length = n') (hm' : m'.length = k')
    (hn : n ≤ 9223372036854775807) (hk : k ≤ 9223372036854775807) (hn' : n' ≤ 9223372036854775807) (hk' : k' ≤ 9223372036854775807)
    (hA : RdS w A (vi l)) (hD : RdS w D (vi m)) (hA' : RdS w A' (vi l')) (hD' : RdS w D' (vi m')) (h1 : okR pr l m = true) (h2 : okR ps l' m' = false) :
    Calls Tryz.prog 64 #[.agg #[.bool pr, .slice A n c, .slice D k d], .agg #[.bool ps, .slice A' n' c', .slice D' k' d']] w (MadeR w.heap.size false [] [] w) := by
  have H1 := Lib.hid (fun W h h' => spec_rok pr l m A D n c k d W hl hm hn hk h h')
  have H2 := Lib.hid (fun W h h' => spec_rok ps l' m' A' D' n' c' k' d' W hl' hm' hn' hk' h h')
  rw [h1] at H1
  rw [h2] at H2
  have RR : Hid (∀ W, Below w.heap.size w W → RdS W A (vi l) ∧ RdS W D (vi m) ∧ RdS W A' (vi l') ∧ RdS W D' (vi m')) := Lib.hid (fun W hb => ⟨hA.below hb, hD.below hb, hA'.below hb, hD'.below hb⟩)
  clear h1 h2 hA hD hA' hD' hl hm hl' hm' hn hk hn' hk'
  go_enter Tryz.func64, Tryz.ntmps64
  go_wp2_with fail
  have kb := ba3 w (.cells #[.bool pr, .slice A n c, .slice D k d] 30) (.cells #[.bool ps, .slice A' n' c', .slice D' k' d'] 30) (.cells #[.bool false, .slice none 0 0, .slice none 0 0] 30)
  obtain ⟨P_r, P_s, P_o⟩ := blocks3 w (.cells #[.bool pr, .slice A n c, .slice D k d] 30) (.cells #[.bool ps, .slice A' n' c', .slice D' k' d'] 30) (.cells #[.bool false, .slice none 0 0, .slice none 0 0] 30)
  generalize ((w.alloc (.cells #[.bool pr, .slice A n c, .slice D k d] 30)).alloc (.cells #[.bool ps, .slice A' n' c', .slice D' k' d'] 30)).alloc (.cells #[.bool false, .slice none 0 0, .slice none 0 0] 30) = W1 at kb P_r P_s P_o ⊢
  obtain ⟨rr, hrr⟩ : ∃ r, r = w.heap.size + 1 + 1 := ⟨_, rfl⟩
  rw [← hrr] at P_o ⊢
  have hrr3 : w.heap.size ≤ rr := by omega
  have nr_r : rr ≠ w.heap.size := by omega
  have nr_s : rr ≠ w.heap.size + 1 := by omega
  clear hrr
  refine (H1.out _ (RR.out _ kb).1 (RR.out _ kb).2.1).mono ?_
  rintro e W2 ⟨rfl, hb⟩
  replace P_r := rblk_below P_r hb
  replace P_s := rblk_below P_s hb
  replace P_o := rblk_below P_o hb
  replace kb := bt kb hb
  clear hb
  have c_r0 : W2.cell? ⟨w.heap.size, 0, none⟩ = some (.bool pr) := rblk_cell P_r 0
  have c_r1 : W2.cell? ⟨w.heap.size, 1, none⟩ = some (.slice A n c) := rblk_cell P_r 1
  have c_r2 : W2.cell? ⟨w.heap.size, 2, none⟩ = some (.slice D k d) := rblk_cell P_r 2
  have c_s0 : W2.cell? ⟨w.heap.size + 1, 0, none⟩ = some (.bool ps) := rblk_cell P_s 0
  have c_s1 : W2.cell? ⟨w.heap.size + 1, 1, none⟩ = some (.slice A' n' c') := rblk_cell P_s 1
  have c_s2 : W2.cell? ⟨w.heap.size + 1, 2, none⟩ = some (.slice D' k' d') := rblk_cell P_s 2
  go_wp2_with fail
  clear c_r0 c_r1 c_r2 c_s0 c_s1 c_s2
  refine (H2.out _ (RR.out _ kb).2.2.1 (RR.out _ kb).2.2.2).mono ?_
  rintro e W3 ⟨rfl, hb⟩
  replace P_r := rblk_below P_r hb
  replace P_s := rblk_below P_s hb
  replace P_o := rblk_below P_o hb
  replace kb := bt kb hb
  clear hb
  have c_r0 : W3.cell? ⟨w.heap.size, 0, none⟩ = some (.bool pr) := rblk_cell P_r 0
  have c_r1 : W3.cell? ⟨w.heap.size, 1, none⟩ = some (.slice A n c) := rblk_cell P_r 1
  have c_r2 : W3.cell? ⟨w.heap.size, 2, none⟩ = some (.slice D k d) := rblk_cell P_r 2
  have c_s0 : W3.cell? ⟨w.heap.size + 1, 0, none⟩ = some (.bool ps) := rblk_cell P_s 0
  have c_s1 : W3.cell? ⟨w.heap.size + 1, 1, none⟩ = some (.slice A' n' c') := rblk_cell P_s 1
  have c_s2 : W3.cell? ⟨w.heap.size + 1, 2, none⟩ = some (.slice D' k' d') := rblk_cell P_s 2
  have c_o0 : W3.cell? ⟨rr, 0, none⟩ = some (.bool false) := rblk_cell P_o 0
  have c_o1 : W3.cell? ⟨rr, 1, none⟩ = some (.slice none 0 0) := rblk_cell P_o 1
  have c_o2 : W3.cell? ⟨rr, 2, none⟩ = some (.slice none 0 0) := rblk_cell P_o 2
  have f_o0 := rblk_free P_o 0
  have f_o1 := rblk_free P_o 1
  have f_o2 := rblk_free P_o 2
  go_wp2
  exact bodyPost_ret (v := .agg #[.bool false, .slice none 0 0, .slice none 0 0]) (by simp [results, Tryz.results64, go_sem, c_o0, c_o1, c_o2]) rfl ⟨none, 0, none, 0, rfl, Nat.le_refl _, Nat.le_refl _, .inl rfl, .inl rfl, (fun a h => by simp [rowOf] at h), below_put3 kb hrr3 _ _ _⟩

theorem spec_radd (pr ps : Bool) (l m l' m' : List Int) (A D A' D' : Option Addr) (n k n' k' c d c' d' : Nat) (w : World) (hl : l.length = n) (hm : m.length = k) (hl' : l'.length = n') (hm' : m'.length = k')
    (hn : n ≤ 9223372036854775807) (hk : k ≤ 9223372036854775807) (hn' : n' ≤ 9223372036854775807) (hk' : k' ≤ 9223372036854775807)
    (hA : RdS w A (vi l)) (hD : RdS w D (vi m)) (hA' : RdS w A' (vi l')) (hD' : RdS w D' (vi m')) :
    Calls Tryz.prog 64 #[.agg #[.bool pr, .slice A n c, .slice D k d], .agg #[.bool ps, .slice A' n' c', .slice D' k' d']] w (MadeR w.heap.size (qn (binQ addQ (valQ pr l m) (valQ ps l' m'))) (ql (binQ addQ (valQ pr l m) (valQ ps l' m'))) (qd (binQ addQ (valQ pr l m) (valQ ps l' m'))) w) := by
  by_cases h1 : okR pr l m = true
  · by_cases h2 : okR ps l' m' = true
    · exact spec_radd_yes pr ps l m l' m' A D A' D' n k n' k' c d c' d' w hl hm hl' hm' hn hk hn' hk' hA hD hA' hD' h1 h2
    · have h2' : okR ps l' m' = false := by simpa using h2
      rw [binQ_no (by rw [h2', Bool.and_false])]
      exact spec_radd_n2 pr ps l m l' m' A D A' D' n k n' k' c d c' d' w hl hm hl' hm' hn hk hn' hk' hA hD hA' hD' h1 h2'
  · have h1' : okR pr l m = false := by simpa using h1
    rw [binQ_no (by rw [h1', Bool.false_and])]
    exact spec_radd_n1 pr ps l m l' m' A D A' D' n k n' k' c d c' d' w hl hm hl' hm' hn hk hn' hk' hA hD hA' hD' h1'

set_option maxHeartbeats 1000000 in
theorem spec_rmul_yes (pr ps : Bool) (l m l' m' : List Int) (A D A' D' : Option Addr) (n k n' k' c d c' d' : Nat) (w : World) (hl : l.length = n) (hm : m.length = k) (hl' : l'.length = n') (hm' : m'.length = k')
    (hn : n ≤ 9223372036854775807) (hk : k ≤ 9223372036854775807) (hn' : n' ≤ 9223372036854775807) (hk' : k' ≤ 9223372036854775807)
    (hA : RdS w A (vi l)) (hD : RdS w D (vi m)) (hA' : RdS w A' (vi l')) (hD' : RdS w D' (vi m')) (h1 : okR pr l m = true) (h2 : okR ps l' m' = true) :
    Calls Tryz.prog 65 #[.agg #[.bool pr, .slice A n c, .slice D k d], .agg #[.bool ps, .slice A' n' c', .slice D' k' d']] w (MadeR w.heap.size (qn (binQ mulQ (valQ pr l m) (valQ ps l' m'))) (ql (binQ mulQ (valQ pr l m) (valQ ps l' m'))) (qd (binQ mulQ (valQ pr l m) (valQ ps l' m'))) w) := by
  have H1 := Lib.hid (fun W h h' => spec_rok pr l m A D n c k d W hl hm hn hk h h')
  have H2 := Lib.hid (fun W h h' => spec_rok ps l' m' A' D' n' c' k' d' W hl' hm' hn' hk' h h')
  obtain ⟨r, e1, e2, e3, hr⟩ := okR_q h1
  obtain ⟨s, e4, e5, e6, hs⟩ := okR_q h2
  have hv : binQ mulQ (valQ pr l m) (valQ ps l' m') = mulQ r s := by rw [e1, e2, e3, e4, e5, e6, valQ_yes hr, valQ_yes hs]; rfl
  have HC := Lib.hid (fun W a b a' b' => lmul_any r s A D A' D' n k n' k' c d c' d' W hr hs (by rw [← e2]; exact hl) (by rw [← e3]; exact hm) (by rw [← e5]; exact hl') (by rw [← e6]; exact hm') a b a' b')
  rw [← e1, ← e4] at HC
  rw [← e2, ← e3, ← e5, ← e6] at HC
  rw [hv]
  rw [h1] at H1
  rw [h2] at H2
  have RR : Hid (∀ W, Below w.heap.size w W → RdS W A (vi l) ∧ RdS W D (vi m) ∧ RdS W A' (vi l') ∧ RdS W D' (vi m')) := Lib.hid (fun W hb => ⟨hA.below hb, hD.below hb, hA'.below hb, hD'.below hb⟩)
  clear hv e1 e2 e3 e4 e5 e6 h1 h2 hr hs hA hD hA' hD' hl hm hl' hm' hn hk hn' hk'
  generalize qn (mulQ r s) = sg at HC ⊢
  generalize ql (mulQ r s) = L at HC ⊢
  generalize qd (mulQ r s) = M at HC ⊢
  go_enter Tryz.func65, Tryz.ntmps65
  go_wp2_with fail
  have kb := ba3 w (.cells #[.bool pr, .slice A n c, .slice D k d] 30) (.cells #[.bool ps, .slice A' n' c', .slice D' k' d'] 30) (.cells #[.bool false, .slice none 0 0, .slice none 0 0] 30)
  obtain ⟨P_r, P_s, P_o⟩ := blocks3 w (.cells #[.bool pr, .slice A n c, .slice D k d] 30) (.cells #[.bool ps, .slice A' n' c', .slice D' k' d'] 30) (.cells #[.bool false, .slice none 0 0, .slice none 0 0] 30)
  generalize ((w.alloc (.cells #[.bool pr, .slice A n c, .slice D k d] 30)).alloc (.cells #[.bool ps, .slice A' n' c', .slice D' k' d'] 30)).alloc (.cells #[.bool false, .slice none 0 0, .slice none 0 0] 30) = W1 at kb P_r P_s P_o ⊢
  obtain ⟨rr, hrr⟩ : ∃ r, r = w.heap.size + 1 + 1 := ⟨_, rfl⟩
  rw [← hrr] at P_o ⊢
  have hrr3 : w.heap.size ≤ rr := by omega
  have nr_r : rr ≠ w.heap.size := by omega
  have nr_s : rr ≠ w.heap.size + 1 := by omega
  clear hrr
  refine (H1.out _ (RR.out _ kb).1 (RR.out _ kb).2.1).mono ?_
  rintro e W2 ⟨rfl, hb⟩
  replace P_r := rblk_below P_r hb
  replace P_s := rblk_below P_s hb
  replace P_o := rblk_below P_o hb
  replace kb := bt kb hb
  clear hb
  have c_r0 : W2.cell? ⟨w.heap.size, 0, none⟩ = some (.bool pr) := rblk_cell P_r 0
  have c_r1 : W2.cell? ⟨w.heap.size, 1, none⟩ = some (.slice A n c) := rblk_cell P_r 1
  have c_r2 : W2.cell? ⟨w.heap.size, 2, none⟩ = some (.slice D k d) := rblk_cell P_r 2
  have c_s0 : W2.cell? ⟨w.heap.size + 1, 0, none⟩ = some (.bool ps) := rblk_cell P_s 0
  have c_s1 : W2.cell? ⟨w.heap.size + 1, 1, none⟩ = some (.slice A' n' c') := rblk_cell P_s 1
  have c_s2 : W2.cell? ⟨w.heap.size + 1, 2, none⟩ = some (.slice D' k' d') := rblk_cell P_s 2
  go_wp2_with fail
  clear c_r0 c_r1 c_r2 c_s0 c_s1 c_s2
  refine (H2.out _ (RR.out _ kb).2.2.1 (RR.out _ kb).2.2.2).mono ?_
  rintro e W3 ⟨rfl, hb⟩
  replace P_r := rblk_below P_r hb
  replace P_s := rblk_below P_s hb
  replace P_o := rblk_below P_o hb
  replace kb := bt kb hb
  clear hb
  have c_r0 : W3.cell? ⟨w.heap.size, 0, none⟩ = some (.bool pr) := rblk_cell P_r 0
  have c_r1 : W3.cell? ⟨w.heap.size, 1, none⟩ = some (.slice A n c) := rblk_cell P_r 1
  have c_r2 : W3.cell? ⟨w.heap.size, 2, none⟩ = some (.slice D k d) := rblk_cell P_r 2
  have c_s0 : W3.cell? ⟨w.heap.size + 1, 0, none⟩ = some (.bool ps) := rblk_cell P_s 0
  have c_s1 : W3.cell? ⟨w.heap.size + 1, 1, none⟩ = some (.slice A' n' c') := rblk_cell P_s 1
  have c_s2 : W3.cell? ⟨w.heap.size + 1, 2, none⟩ = some (.slice D' k' d') := rblk_cell P_s 2
  go_wp2_with fail
  clear c_r0 c_r1 c_r2 c_s0 c_s1 c_s2
  have hltr := rblk_lt P_o
  refine (HC.out _ (RR.out _ kb).1 (RR.out _ kb).2.1 (RR.out _ kb).2.2.1 (RR.out _ kb).2.2.2).mono ?_
  rintro e W4 ⟨A3, c3, D3, d3, rfl, hc3, hd3, o3, o4, hap3, hb⟩
  replace P_r := rblk_below P_r hb
  replace P_s := rblk_below P_s hb
  replace P_o := rblk_below P_o hb
  replace kb := bt kb hb
  clear hb
  have c_o0 : W4.cell? ⟨rr, 0, none⟩ = some (.bool false) := rblk_cell P_o 0
  have c_o1 : W4.cell? ⟨rr, 1, none⟩ = some (.slice none 0 0) := rblk_cell P_o 1
  have c_o2 : W4.cell? ⟨rr, 2, none⟩ = some (.slice none 0 0) := rblk_cell P_o 2
  have f_o0 := rblk_free P_o 0
  have f_o1 := rblk_free P_o 1
  have f_o2 := rblk_free P_o 2
  go_wp2
  exact bodyPost_ret (v := .agg #[.bool sg, .slice A3 L.length c3, .slice D3 M.length d3]) (by simp [results, Tryz.results65, go_sem, c_o0, c_o1, c_o2]) rfl ⟨A3, c3, D3, d3, rfl, hc3, hd3, (own_put3 o3 hltr _ _ _).more (Nat.le_trans hrr3 (Nat.le_of_lt hltr)), (own_put3 o4 hltr _ _ _).more (Nat.le_trans hrr3 (Nat.le_of_lt hltr)), hap3, below_put3 kb hrr3 _ _ _⟩

set_option maxHeartbeats 1000000 in
theorem spec_rmul_n1 (pr ps : Bool) (l m l' m' : List Int) (A D A' D' : Option Addr) (n k n' k' c d c' d' : Nat) (w : World) (hl : l.length = n) (hm : m.length = k) (hl' : l'.length = n') (hm' : m'.length = k')
    (hn : n ≤ 9223372036854775807) (hk : k ≤ 9223372036854775807) (hn' : n' ≤ 9223372036854775807) (hk' : k' ≤ 9223372036854775807)
    (hA : RdS w A (vi l)) (hD : RdS w D (vi m)) (hA' : RdS w A' (vi l')) (hD' : RdS w D' (vi m')) (h1 : okR pr l m = false) :
    Calls Tryz.prog 65 #[.agg #[.bool pr, .slice A n c, .slice D k d], .agg #[.bool ps, .slice A' n' c', .slice D' k' d']] w (MadeR w.heap.size false [] [] w) := by
  have H1 := Lib.hid (fun W h h' => spec_rok pr l m A D n c k d W hl hm hn hk h h')
  have H2 := Lib.hid (fun W h h' => spec_rok ps l' m' A' D' n' c' k' d' W hl' hm' hn' hk' h h')
  rw [h1] at H1
  have RR : Hid (∀ W, Below w.heap.size w W → RdS W A (vi l) ∧ RdS W D (vi m) ∧ RdS W A' (vi l') ∧ RdS W D' (vi m')) := Lib.hid (fun W hb => ⟨hA.below hb, hD.below hb, hA'.below hb, hD'.below hb⟩)
  clear H2 h1 hA hD hA' hD' hl hm hl' hm' hn hk hn' hk'
  go_enter Tryz.func65, Tryz.ntmps65
  go_wp2_with fail
  have kb := ba3 w (.cells #[.bool pr, .slice A n c, .slice D k d] 30) (.cells #[.bool ps, .slice A' n' c', .slice D' k' d'] 30) (.cells #[.bool false, .slice none 0 0, .slice none 0 0] 30)
  obtain ⟨P_r, P_s, P_o⟩ := blocks3 w (.cells #[.bool pr, .slice A n c, .slice D k d] 30) (.cells #[.bool ps, .slice A' n' c', .slice D' k' d'] 30) (.cells #[.bool false, .slice none 0 0, .slice none 0 0] 30)
  generalize ((w.alloc (.cells #[.bool pr, .slice A n c, .slice D k d] 30)).alloc (.cells #[.bool ps, .slice A' n' c', .slice D' k' d'] 30)).alloc (.cells #[.bool false, .slice none 0 0, .slice none 0 0] 30) = W1 at kb P_r P_s P_o ⊢
  obtain ⟨rr, hrr⟩ : ∃ r, r = w.heap.size + 1 + 1 := ⟨_, rfl⟩
  rw [← hrr] at P_o ⊢
  have hrr3 : w.heap.size ≤ rr := by omega
  have nr_r : rr ≠ w.heap.size := by omega
  have nr_s : rr ≠ w.heap.size + 1 := by omega
  clear hrr
  refine (H1.out _ (RR.out _ kb).1 (RR.out _ kb).2.1).mono ?_
  rintro e W2 ⟨rfl, hb⟩
  replace P_r := rblk_below P_r hb
  replace P_s := rblk_below P_s hb
  replace P_o := rblk_below P_o hb
  replace kb := bt kb hb
  clear hb
  have c_r0 : W2.cell? ⟨w.heap.size, 0, none⟩ = some (.bool pr) := rblk_cell P_r 0
  have c_r1 : W2.cell? ⟨w.heap.size, 1, none⟩ = some (.slice A n c) := rblk_cell P_r 1
  have c_r2 : W2.cell? ⟨w.heap.size, 2, none⟩ = some (.slice D k d) := rblk_cell P_r 2
  have c_s0 : W2.cell? ⟨w.heap.size + 1, 0, none⟩ = some (.bool ps) := rblk_cell P_s 0
  have c_s1 : W2.cell? ⟨w.heap.size + 1, 1, none⟩ = some (.slice A' n' c') := rblk_cell P_s 1
  have c_s2 : W2.cell? ⟨w.heap.size + 1, 2, none⟩ = some (.slice D' k' d') := rblk_cell P_s 2
  have c_o0 : W2.cell? ⟨rr, 0, none⟩ = some (.bool false) := rblk_cell P_o 0
  have c_o1 : W2.cell? ⟨rr, 1, none⟩ = some (.slice none 0 0) := rblk_cell P_o 1
  have c_o2 : W2.cell? ⟨rr, 2, none⟩ = some (.slice none 0 0) := rblk_cell P_o 2
  have f_o0 := rblk_free P_o 0
  have f_o1 := rblk_free P_o 1
  have f_o2 := rblk_free P_o 2
  go_wp2
  exact bodyPost_ret (v := .agg #[.bool false, .slice none 0 0, .slice none 0 0]) (by simp [results, Tryz.results65, go_sem, c_o0, c_o1, c_o2]) rfl ⟨none, 0, none, 0, rfl, Nat.le_refl _, Nat.le_refl _, .inl rfl, .inl rfl, (fun a h => by simp [rowOf] at h), below_put3 kb hrr3 _ _ _⟩

set_option maxHeartbeats 1000000 in
theorem spec_rmul_n2 (pr ps : Bool) (l m l' m' : List Int) (A D A' D' : Option Addr) (n k n' k' c d c' d' : Nat) (w : World) (hl : l.length = n) (hm : m.length = k) (hl' : l'.length = n') (hm' : m'.length = k')
    (hn : n ≤ 9223372036854775807) (hk : k ≤ 9223372036854775807) (hn' : n' ≤ 9223372036854775807) (hk' : k' ≤ 9223372036854775807)
    (hA : RdS w A (vi l)) (hD : RdS w D (vi m)) (hA' : RdS w A' (vi l')) (hD' : RdS w D' (vi m')) (h1 : okR pr l m = true) (h2 : okR ps l' m' = false) :
    Calls Tryz.prog 65 #[.agg #[.bool pr, .slice A n c, .slice D k d], .agg #[.bool ps, .slice A' n' c', .slice D' k' d']] w (MadeR w.heap.size false [] [] w) := by
  have H1 := Lib.hid (fun W h h' => spec_rok pr l m A D n c k d W hl hm hn hk h h')
  have H2 := Lib.hid (fun W h h' => spec_rok ps l' m' A' D' n' c' k' d' W hl' hm' hn' hk' h h')
  rw [h1] at H1
  rw [h2] at H2
  have RR : Hid (∀ W, Below w.heap.size w W → RdS W A (vi l) ∧ RdS W D (vi m) ∧ RdS W A' (vi l') ∧ RdS W D' (vi m')) := Lib.hid (fun W hb => ⟨hA.below hb, hD.below hb, hA'.below hb, hD'.below hb⟩)
  clear h1 h2 hA hD hA' hD' hl hm hl' hm' hn hk hn' hk'
  go_enter Tryz.func65, Tryz.ntmps65
  go_wp2_with fail
  have kb := ba3 w (.cells #[.bool pr, .slice A n c, .slice D k d] 30) (.cells #[.bool ps, .slice A' n' c', .slice D' k' d'] 30) (.cells #[.bool false, .slice none 0 0, .slice none 0 0] 30)
  obtain ⟨P_r, P_s, P_o⟩ := blocks3 w (.cells #[.bool pr, .slice A n c, .slice D k d] 30) (.cells #[.bool ps, .slice A' n' c', .slice D' k' d'] 30) (.cells #[.bool false, .slice none 0 0, .slice none 0 0] 30)
  generalize ((w.alloc (.cells #[.bool pr, .slice A n c, .slice D k d] 30)).alloc (.cells #[.bool ps, .slice A' n' c', .slice D' k' d'] 30)).alloc (.cells #[.bool false, .slice none 0 0, .slice none 0 0] 30) = W1 at kb P_r P_s P_o ⊢
  obtain ⟨rr, hrr⟩ : ∃ r, r = w.heap.size + 1 + 1 := ⟨_, rfl⟩
  rw [← hrr] at P_o ⊢
  have hrr3 : w.heap.size ≤ rr := by omega
  have nr_r : rr ≠ w.heap.size := by omega
  have nr_s : rr ≠ w.heap.size + 1 := by omega
  clear hrr
  refine (H1.out _ (RR.out _ kb).1 (RR.out _ kb).2.1).mono ?_
  rintro e W2 ⟨rfl, hb⟩
  replace P_r := rblk_below P_r hb
  replace P_s := rblk_below P_s hb
  replace P_o := rblk_below P_o hb
  replace kb := bt kb hb
  clear hb
  have c_r0 : W2.cell? ⟨w.heap.size, 0, none⟩ = some (.bool pr) := rblk_cell P_r 0
  have c_r1 : W2.cell? ⟨w.heap.size, 1, none⟩ = some (.slice A n c) := rblk_cell P_r 1
  have c_r2 : W2.cell? ⟨w.heap.size, 2, none⟩ = some (.slice D k d) := rblk_cell P_r 2
  have c_s0 : W2.cell? ⟨w.heap.size + 1, 0, none⟩ = some (.bool ps) := rblk_cell P_s 0
  have c_s1 : W2.cell? ⟨w.heap.size + 1, 1, none⟩ = some (.slice A' n' c') := rblk_cell P_s 1
  have c_s2 : W2.cell? ⟨w.heap.size + 1, 2, none⟩ = some (.slice D' k' d') := rblk_cell P_s 2
  go_wp2_with fail
  clear c_r0 c_r1 c_r2 c_s0 c_s1 c_s2
  refine (H2.out _ (RR.out _ kb).2.2.1 (RR.out _ kb).2.2.2).mono ?_
  rintro e W3 ⟨rfl, hb⟩
  replace P_r := rblk_below P_r hb
  replace P_s := rblk_below P_s hb
  replace P_o := rblk_below P_o hb
  replace kb := bt kb hb
  clear hb
  have c_r0 : W3.cell? ⟨w.heap.size, 0, none⟩ = some (.bool pr) := rblk_cell P_r 0
  have c_r1 : W3.cell? ⟨w.heap.size, 1, none⟩ = some (.slice A n c) := rblk_cell P_r 1
  have c_r2 : W3.cell? ⟨w.heap.size, 2, none⟩ = some (.slice D k d) := rblk_cell P_r 2
  have c_s0 : W3.cell? ⟨w.heap.size + 1, 0, none⟩ = some (.bool ps) := rblk_cell P_s 0
  have c_s1 : W3.cell? ⟨w.heap.size + 1, 1, none⟩ = some (.slice A' n' c') := rblk_cell P_s 1
  have c_s2 : W3.cell? ⟨w.heap.size + 1, 2, none⟩ = some (.slice D' k' d') := rblk_cell P_s 2
  have c_o0 : W3.cell? ⟨rr, 0, none⟩ = some (.bool false) := rblk_cell P_o 0
  have c_o1 : W3.cell? ⟨rr, 1, none⟩ = some (.slice none 0 0) := rblk_cell P_o 1
  have c_o2 : W3.cell? ⟨rr, 2, none⟩ = some (.slice none 0 0) := rblk_cell P_o 2
  have f_o0 := rblk_free P_o 0
  have f_o1 := rblk_free P_o 1
  have f_o2 := rblk_free P_o 2
  go_wp2
  exact bodyPost_ret (v := .agg #[.bool false, .slice none 0 0, .slice none 0 0]) (by simp [results, Tryz.results65, go_sem, c_o0, c_o1, c_o2]) rfl ⟨none, 0, none, 0, rfl, Nat.le_refl _, Nat.le_refl _, .inl rfl, .inl rfl, (fun a h => by simp [rowOf] at h), below_put3 kb hrr3 _ _ _⟩

theorem spec_rmul (pr ps : Bool) (l m l' m' : List Int) (A D A' D' : Option Addr) (n k n' k' c d c' d' : Nat) (w : World) (hl : l.length = n) (hm : m.length = k) (hl' : l'.length = n') (hm' : m'.length = k')
    (hn : n ≤ 9223372036854775807) (hk : k ≤ 9223372036854775807) (hn' : n' ≤ 9223372036854775807) (hk' : k' ≤ 9223372036854775807)
    (hA : RdS w A (vi l)) (hD : RdS w D (vi m)) (hA' : RdS w A' (vi l')) (hD' : RdS w D' (vi m')) :
    Calls Tryz.prog 65 #[.agg #[.bool pr, .slice A n c, .slice D k d], .agg #[.bool ps, .slice A' n' c', .slice D' k' d']] w (MadeR w.heap.size (qn (binQ mulQ (valQ pr l m) (valQ ps l' m'))) (ql (binQ mulQ (valQ pr l m) (valQ ps l' m'))) (qd (binQ mulQ (valQ pr l m) (valQ ps l' m'))) w) := by
  by_cases h1 : okR pr l m = true
  · by_cases h2 : okR ps l' m' = true
    · exact spec_rmul_yes pr ps l m l' m' A D A' D' n k n' k' c d c' d' w hl hm hl' hm' hn hk hn' hk' hA hD hA' hD' h1 h2
    · have h2' : okR ps l' m' = false := by simpa using h2
      rw [binQ_no (by rw [h2', Bool.and_false])]
      exact spec_rmul_n2 pr ps l m l' m' A D A' D' n k n' k' c d c' d' w hl hm hl' hm' hn hk hn' hk' hA hD hA' hD' h1 h2'
  · have h1' : okR pr l m = false := by simpa using h1
    rw [binQ_no (by rw [h1', Bool.false_and])]
    exact spec_rmul_n1 pr ps l m l' m' A D A' D' n k n' k' c d c' d' w hl hm hl' hm' hn hk hn' hk' hA hD hA' hD' h1'
end Go.Proofs.YtennekieiioilaaGreat

