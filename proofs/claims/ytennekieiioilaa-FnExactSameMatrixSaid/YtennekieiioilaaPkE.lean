/-
  Fractions of the model: 'l04One', 'RatOk'.
-/
import Derived.Test.YtennekieiioilaaPkD
import Derived.Test.YtennekieiioilaaPkB
import Derived.Deep.RegionHeld3
import Derived.Deep.DrawnRows
import Derived.Deep.DeepCutAuto
namespace Go.Proofs.Ytennekieiioilaa
open Go.ChangeShapes Go.WideShapes Go.ChangeAt Go.RowKit
open Go.ChangeMaps (open_string shut_string)
set_option linter.unusedVariables false
set_option linter.unusedSimpArgs false
set_option maxRecDepth 4000

set_option maxHeartbeats 400000 in
theorem one_any (l : List Int) (A : Option Addr) (n c : Nat) (w : World) (hl : l.length = n) (hn : n ≤ 9223372036854775807) (hA : RdS w A (vi l)) :
    Calls Try.prog 39 #[.slice A n c] w fun e w' => e = .returned (.bool (decide (l = [1]))) ∧ Below w.heap.size w w' := by
  by_cases h1 : n = 1
  · subst h1
    obtain ⟨x, rfl⟩ : ∃ x, l = [x] := by
      match l, hl with
      | [x], _ => exact ⟨x, rfl⟩
    obtain ⟨b1, o1, rfl, hb1, e1⟩ := hA.int (k := 0) (x := x) rfl
    rw [Nat.add_zero] at e1
    clear hA
    have hq : decide ([x] = [1]) = (x == 1) := by by_cases h : x = 1 <;> simp [h]
    rw [hq]
    go_enter Try.func39, Try.ntmps39
    go_wp2
    go_ret
    exact ⟨rfl, Below.refl _ _⟩
  · have hq : decide (l = [1]) = false := decide_eq_false (fun h => h1 (by rw [← hl, h]; rfl))
    rw [hq]
    have hz : ((n : Int) == 1) = false := by rw [beq_eq_false_iff_ne]; omega
    clear hA hl
    go_enter Try.func39, Try.ntmps39
    go_wp2
    go_ret
    exact ⟨rfl, Below.refl _ _⟩

set_option maxHeartbeats 1000000 in
theorem rok_b (p : Bool) (l m : List Int) (A D : Option Addr) (n c k d : Nat) (w : World) (hl : l.length = n) (hm : m.length = k) (hn : n ≤ 9223372036854775807) (hk : k ≤ 9223372036854775807) (hb : okB p l = false) (hA : RdS w A (vi l)) (hD : RdS w D (vi m)) :
    Calls Try.prog 25 #[.agg #[.bool p, .slice A n c, .slice D k d]] w fun e w' => e = .returned (.bool (false)) ∧ Below w.heap.size w w' := by
  have HB := Lib.hid (fun W h => spec_bok p l A n c W hl hn h)
  rw [hb] at HB
  clear hl hm hb
  go_enter Try.func25, Try.ntmps25
  go_wp2_with fail
  have kb := ba1 w (.cells #[.bool p, .slice A n c, .slice D k d] 45)
  have P := heap_alloc_new w (.cells #[.bool p, .slice A n c, .slice D k d] 45)
  generalize w.alloc (.cells #[.bool p, .slice A n c, .slice D k d] 45) = W1 at kb P ⊢
  have p0 : W1.cell? ⟨w.heap.size, 0, none⟩ = some (.bool p) := rblk_cell P 0
  have p1 : W1.cell? ⟨w.heap.size, 1, none⟩ = some (.slice A n c) := rblk_cell P 1
  refine (HB.out _ (hA.below kb)).mono ?_
  rintro e W2 ⟨rfl, hb⟩
  clear p0 p1
  replace P := rblk_below P hb
  replace kb := bt kb hb
  clear hb
  have p1 : W2.cell? ⟨w.heap.size, 1, none⟩ = some (.slice A n c) := rblk_cell P 1
  have p2 : W2.cell? ⟨w.heap.size, 2, none⟩ = some (.slice D k d) := rblk_cell P 2
  go_wp2
  go_ret
  exact ⟨rfl, kb⟩

set_option maxHeartbeats 1000000 in
theorem rok_o (p : Bool) (l m : List Int) (A D : Option Addr) (n c k d : Nat) (w : World) (hl : l.length = n) (hm : m.length = k) (hn : n ≤ 9223372036854775807) (hk : k ≤ 9223372036854775807) (hb : okB p l = true) (ho : ok m = false) (hA : RdS w A (vi l)) (hD : RdS w D (vi m)) :
    Calls Try.prog 25 #[.agg #[.bool p, .slice A n c, .slice D k d]] w fun e w' => e = .returned (.bool (false)) ∧ Below w.heap.size w w' := by
  have HB := Lib.hid (fun W h => spec_bok p l A n c W hl hn h)
  have HO := Lib.hid (fun W h => spec_ok m D k d W hm hk h)
  rw [hb] at HB
  rw [ho] at HO
  clear hl hm hb ho
  go_enter Try.func25, Try.ntmps25
  go_wp2_with fail
  have kb := ba1 w (.cells #[.bool p, .slice A n c, .slice D k d] 45)
  have P := heap_alloc_new w (.cells #[.bool p, .slice A n c, .slice D k d] 45)
  generalize w.alloc (.cells #[.bool p, .slice A n c, .slice D k d] 45) = W1 at kb P ⊢
  have p0 : W1.cell? ⟨w.heap.size, 0, none⟩ = some (.bool p) := rblk_cell P 0
  have p1 : W1.cell? ⟨w.heap.size, 1, none⟩ = some (.slice A n c) := rblk_cell P 1
  refine (HB.out _ (hA.below kb)).mono ?_
  rintro e W2 ⟨rfl, hb⟩
  clear p0 p1
  replace P := rblk_below P hb
  replace kb := bt kb hb
  clear hb
  have p1 : W2.cell? ⟨w.heap.size, 1, none⟩ = some (.slice A n c) := rblk_cell P 1
  have p2 : W2.cell? ⟨w.heap.size, 2, none⟩ = some (.slice D k d) := rblk_cell P 2
  go_wp2_with fail
  refine (HO.out _ (hD.below kb)).mono ?_
  rintro e W3 ⟨rfl, rfl⟩
  go_wp2
  go_ret
  exact ⟨rfl, kb⟩

set_option maxHeartbeats 1000000 in
theorem rok_k (p : Bool) (l m : List Int) (A D : Option Addr) (n c k d : Nat) (w : World) (hl : l.length = n) (hm : m.length = k) (hn : n ≤ 9223372036854775807) (hk : k ≤ 9223372036854775807) (hb : okB p l = true) (ho : ok m = true) (hk2 : k = 0 ∨ 24 < k ∨ 24 < n) (hA : RdS w A (vi l)) (hD : RdS w D (vi m)) :
    Calls Try.prog 25 #[.agg #[.bool p, .slice A n c, .slice D k d]] w fun e w' => e = .returned (.bool (false)) ∧ Below w.heap.size w w' := by
  have HB := Lib.hid (fun W h => spec_bok p l A n c W hl hn h)
  have HO := Lib.hid (fun W h => spec_ok m D k d W hm hk h)
  rw [hb] at HB
  rw [ho] at HO
  clear hl hm hb ho
  go_enter Try.func25, Try.ntmps25
  go_wp2_with fail
  have kb := ba1 w (.cells #[.bool p, .slice A n c, .slice D k d] 45)
  have P := heap_alloc_new w (.cells #[.bool p, .slice A n c, .slice D k d] 45)
  generalize w.alloc (.cells #[.bool p, .slice A n c, .slice D k d] 45) = W1 at kb P ⊢
  have p0 : W1.cell? ⟨w.heap.size, 0, none⟩ = some (.bool p) := rblk_cell P 0
  have p1 : W1.cell? ⟨w.heap.size, 1, none⟩ = some (.slice A n c) := rblk_cell P 1
  refine (HB.out _ (hA.below kb)).mono ?_
  rintro e W2 ⟨rfl, hb⟩
  clear p0 p1
  replace P := rblk_below P hb
  replace kb := bt kb hb
  clear hb
  have p1 : W2.cell? ⟨w.heap.size, 1, none⟩ = some (.slice A n c) := rblk_cell P 1
  have p2 : W2.cell? ⟨w.heap.size, 2, none⟩ = some (.slice D k d) := rblk_cell P 2
  go_wp2_with fail
  refine (HO.out _ (hD.below kb)).mono ?_
  rintro e W3 ⟨rfl, rfl⟩
  by_cases h1 : k = 0
  · subst h1
    go_wp2
    go_ret
    exact ⟨rfl, kb⟩
  · by_cases h2 : 24 < k
    · have h2' : (24 : Int) < (k : Int) := by omega
      go_wp2
      go_ret
      exact ⟨rfl, kb⟩
    · have h2' : ¬ (24 : Int) < (k : Int) := by omega
      have h3 : (24 : Int) < (n : Int) := by omega
      go_wp2
      go_ret
      exact ⟨rfl, kb⟩

set_option maxHeartbeats 1000000 in
theorem rok_g (p : Bool) (l m : List Int) (A D : Option Addr) (n c k d : Nat) (w : World) (hl : l.length = n) (hm : m.length = k) (hn : n ≤ 9223372036854775807) (hk : k ≤ 9223372036854775807) (z b : Nat) (hz : l = nd z) (hbb : m = nd b) (hb : okB p l = true) (ho : ok m = true) (hk1 : 0 < k) (hk2 : k ≤ 24) (hn2 : n ≤ 24) (hA : RdS w A (vi l)) (hD : RdS w D (vi m)) :
    Calls Try.prog 25 #[.agg #[.bool p, .slice A n c, .slice D k d]] w fun e w' => e = .returned (.bool (decide (Nat.gcd z b = 1))) ∧ Below w.heap.size w w' := by
  have HB := Lib.hid (fun W h => spec_bok p l A n c W hl hn h)
  have HO := Lib.hid (fun W h => spec_ok m D k d W hm hk h)
  rw [hb] at HB
  rw [ho] at HO
  have hzn : ln z = n := by rw [← nd_length, ← hz, hl]
  have hbk : ln b = k := by rw [← nd_length, ← hbb, hm]
  have HG := Lib.hid (fun W h h' => spec_gcd_rd z b A D n c k d W hzn hbk (by omega) (by omega) h h')
  rw [← hz, ← hbb] at HG
  have hgl : (nd (Nat.gcd z b)).length ≤ 9223372036854775807 := by
    rw [nd_length]
    have hb0 : 0 < b := by rcases Nat.eq_zero_or_pos b with h | h; (subst h; rw [ln_zero] at hbk; omega); exact h
    have := ln_mono (Nat.le_of_dvd hb0 (Nat.gcd_dvd_right z b)); omega
  have hq : decide (Nat.gcd z b = 1) = decide (nd (Nat.gcd z b) = [1]) := by
    have e1 : nd 1 = [1] := by unfold nd; rw [ln_pos (by decide), show 1 / 1000000000 = 0 by decide, ln_zero]; decide
    by_cases h : Nat.gcd z b = 1
    · rw [decide_eq_true h, decide_eq_true (show nd (Nat.gcd z b) = [1] by rw [h, e1])]
    · rw [decide_eq_false h, decide_eq_false (fun e => h (nd_inj (by rw [e, e1])))]
  rw [hq]
  generalize nd (Nat.gcd z b) = G at HG hgl ⊢
  have H1 := Lib.hid (fun A' c' W h => one_any G A' _ c' W rfl hgl h)
  have h1 : ¬ (k : Int) = 0 := by omega
  have h1' : ((k : Int) == 0) = false := by rw [beq_eq_false_iff_ne]; exact h1
  have h2 : ¬ (24 : Int) < (k : Int) := by omega
  have h3 : ¬ (24 : Int) < (n : Int) := by omega
  clear hq hgl hzn hbk hz hbb hl hm hb ho
  go_enter Try.func25, Try.ntmps25
  go_wp2_with fail
  have kb := ba1 w (.cells #[.bool p, .slice A n c, .slice D k d] 45)
  have P := heap_alloc_new w (.cells #[.bool p, .slice A n c, .slice D k d] 45)
  generalize w.alloc (.cells #[.bool p, .slice A n c, .slice D k d] 45) = W1 at kb P ⊢
  have p0 : W1.cell? ⟨w.heap.size, 0, none⟩ = some (.bool p) := rblk_cell P 0
  have p1 : W1.cell? ⟨w.heap.size, 1, none⟩ = some (.slice A n c) := rblk_cell P 1
  refine (HB.out _ (hA.below kb)).mono ?_
  rintro e W2 ⟨rfl, hb⟩
  clear p0 p1
  replace P := rblk_below P hb
  replace kb := bt kb hb
  clear hb
  have p1 : W2.cell? ⟨w.heap.size, 1, none⟩ = some (.slice A n c) := rblk_cell P 1
  have p2 : W2.cell? ⟨w.heap.size, 2, none⟩ = some (.slice D k d) := rblk_cell P 2
  go_wp2_with fail
  refine (HO.out _ (hD.below kb)).mono ?_
  rintro e W3 ⟨rfl, rfl⟩
  go_wp2_with fail
  refine (HG.out _ (hA.below kb) (hD.below kb)).mono ?_
  rintro e W4 ⟨A5, c5, rfl, o5, hb⟩
  clear p1 p2
  replace kb := bt kb hb
  go_wp2_with fail
  refine (H1.out _ _ _ o5.rd).mono ?_
  rintro e W5 ⟨rfl, hb⟩
  replace kb := bt kb hb
  go_wp2
  go_ret
  exact ⟨rfl, kb⟩

/-- 'RatOk' of the model. -/
theorem spec_rok (p : Bool) (l m : List Int) (A D : Option Addr) (n c k d : Nat) (w : World) (hl : l.length = n) (hm : m.length = k) (hn : n ≤ 9223372036854775807) (hk : k ≤ 9223372036854775807) (hA : RdS w A (vi l)) (hD : RdS w D (vi m)) :
    Calls Try.prog 25 #[.agg #[.bool p, .slice A n c, .slice D k d]] w fun e w' => e = .returned (.bool (okR p l m)) ∧ Below w.heap.size w w' := by
  by_cases h1 : okB p l = true
  · by_cases h2 : ok m = true
    · by_cases h3 : k = 0 ∨ 24 < k ∨ 24 < n
      · have e : okR p l m = false := by
          unfold okR
          rcases h3 with h | h | h
          · rw [decide_eq_false (show ¬ m ≠ [] from fun h0 => h0 (List.eq_nil_of_length_eq_zero (by omega)))]; simp
          · rw [decide_eq_false (show ¬ m.length ≤ 24 by omega)]; simp
          · rw [decide_eq_false (show ¬ l.length ≤ 24 by omega)]; simp
        rw [e]
        exact rok_k p l m A D n c k d w hl hm hn hk h1 h2 h3 hA hD
      · obtain ⟨z, _, hz, _⟩ := okB_z h1
        obtain ⟨b, hb, _⟩ := ok_nd h2
        have hm0 : m ≠ [] := fun e => by rw [e] at hm; simp at hm; omega
        have e : okR p l m = decide (Nat.gcd z.natAbs b = 1) := by
          unfold okR
          rw [h1, h2, decide_eq_true hm0, decide_eq_true (show m.length ≤ 24 by omega), decide_eq_true (show l.length ≤ 24 by omega), hz, hb, val_zm, val_nd]
          simp
        rw [e]
        exact rok_g p l m A D n c k d w hl hm hn hk z.natAbs b hz hb h1 h2 (by omega) (by omega) (by omega) hA hD
    · have h2' : ok m = false := by simpa using h2
      have e : okR p l m = false := by unfold okR; rw [h2']; simp
      rw [e]
      exact rok_o p l m A D n c k d w hl hm hn hk h1 h2' hA hD
  · have h1' : okB p l = false := by simpa using h1
    have e : okR p l m = false := by unfold okR; rw [h1']; simp
    rw [e]
    exact rok_b p l m A D n c k d w hl hm hn hk h1' hA hD
end Go.Proofs.Ytennekieiioilaa

namespace Go.Proofs.Ytennekieiioilaa
open Go.ChangeShapes Go.WideShapes Go.ChangeAt Go.RowKit
open Go.ChangeMaps (open_string shut_string)
set_option linter.unusedVariables false
set_option linter.unusedSimpArgs false
set_option maxRecDepth 4000

set_option maxHeartbeats 400000 in
/-- 'l02Trim' cuts a row that is read where it lies. -/
theorem trim_rr (n c T : Nat) (A : Option Addr) (w : World) (ho : RdS w A (vi (row n T))) (hT : ln T ≤ n) (hc : n ≤ c) (hn : n ≤ 1048576) :
    Calls Try.prog 71 #[.slice A n c] w fun e w' => e = .returned (.slice A (ln T) c) ∧ w = w' := by
  by_cases h0 : n = 0
  · subst h0
    have hz : Hid (ln T = 0) := Lib.hid (by omega)
    clear ho hT
    cases A with
    | none =>
      go_enter Try.func71, Try.ntmps71
      go_wp2
      go_loop [3] (fun i => i = .int .i64 0) (fun i => 0)
      case atStart => exact rfl
      case round =>
        obtain rfl := hrel
        go_wp2
        go_ret
        exact ⟨by rw [hz.out]; rfl, rfl⟩
    | some ad =>
      go_enter Try.func71, Try.ntmps71
      go_wp2
      go_loop [3] (fun i => i = .int .i64 0) (fun i => 0)
      case atStart => exact rfl
      case round =>
        obtain rfl := hrel
        go_wp2
        go_ret
        exact ⟨by rw [hz.out]; rfl, rfl⟩
  · obtain ⟨g, off, rfl, hgw, hcell⟩ := ho.block (by rw [vi_length, row_length]; omega)
    have hrd := ho
    clear ho hcell
    go_enter Try.func71, Try.ntmps71
    go_wp2
    go_loop [3] (fun i => ∃ k : Nat, k ≤ n ∧ ln T ≤ k ∧ i = .int .i64 (k : Int)) (fun i => (intOf i).toNat)
    case atStart => exact ⟨n, Nat.le_refl _, hT, rfl⟩
    case round =>
      obtain ⟨k, hk, hTk, rfl⟩ := hrel
      by_cases hz : 0 < k ∧ dgt T (k - 1) = 0
      · have hc1 := hrd.int_at (row_get (n := n) (i := k - 1) T (by omega))
        have h2 := trim_step hz.1 hTk hz.2
        have hp := hz.1
        rw [hz.2] at hc1
        have hk1 : ((k : Int) - 1) = ((k - 1 : Nat) : Int) := by omega
        have hk0 : (0 : Int) ≤ (k : Int) - 1 := by omega
        have hk2 : (k : Int) - 1 < (n : Int) := by omega
        have hkt : ((k : Int) - 1).toNat = k - 1 := by omega
        clear hz
        go_wp2
        go_round
        case rel => exact ⟨k - 1, by omega, h2, by go_num⟩
        case measure => simp [intOf]; omega
      · have hkT : Hid (ln T = k) := by
          refine Lib.hid ?_
          by_cases h0 : 0 < k
          · exact trim_stop h0 hTk (fun e => hz ⟨h0, e⟩)
          · omega
        by_cases h0 : 0 < k
        · have hc1 := hrd.int_at (row_get (n := n) (i := k - 1) T (by omega))
          have hne : dgt T (k - 1) ≠ 0 := fun e => hz ⟨h0, e⟩
          have hk1 : ((k : Int) - 1) = ((k - 1 : Nat) : Int) := by omega
          clear hz
          generalize dgt T (k - 1) = x at hc1 hne
          have q : (x == 0) = false := by rw [beq_eq_false_iff_ne]; exact hne
          go_wp2
          go_ret
          exact ⟨by rw [hkT.out]; rfl, rfl⟩
        · obtain rfl : k = 0 := by omega
          go_wp2
          go_ret
          exact ⟨by rw [hkT.out]; rfl, rfl⟩

theorem RdS.take {w : World} {A : Option Addr} {l : List Value} (h : RdS w A l) (k : Nat) : RdS w A (l.take k) := by
  rcases h with h | ⟨b, off, ha, hb, hc⟩
  · exact .inl (by rw [h, List.take_nil])
  · refine .inr ⟨b, off, ha, hb, fun j hj => ?_⟩
    rw [List.length_take] at hj
    rw [hc j (by omega), List.getElem?_take, if_pos (by omega)]
theorem row_val_ex (T : Nat) {n : Nat} {w : World} {A : Option Addr} (h : RdS w A (vi (row n T))) (hT : ln T ≤ n) : RdS w A (vi (nd T)) := by
  have h2 := RdS.take h (ln T)
  rw [← vi_take, row_take _ hT] at h2
  exact h2

theorem nd_one : nd 1 = [1] := by unfold nd; rw [ln_pos (by decide), show 1 / 1000000000 = 0 by decide, ln_zero]; decide
/-- The fraction of a sign, a magnitude and a denominator in lowest terms, or none. -/
def lowQ (s : Bool) (a b : Nat) : Option Rat := if b = 0 then none else cutQ (mkRat (sgn s a) b)
theorem lowQ_parts (s : Bool) (a b : Nat) (hb0 : 0 < b) : (mkRat (sgn s a) b).num.natAbs = a / Nat.gcd a b ∧ (mkRat (sgn s a) b).den = b / Nat.gcd a b ∧ zn (mkRat (sgn s a) b).num = (s && decide (nd (a / Nat.gcd a b) ≠ [])) := by
  obtain ⟨h1, h2, h3⟩ := low_parts (sgn s a) b hb0
  rw [sgn_abs] at h1 h2
  refine ⟨h1, h2, ?_⟩
  rw [h3, sgn_zn]
  congr 1
  have hg : 0 < Nat.gcd a b := Nat.gcd_pos_of_pos_right _ hb0
  have hd : Nat.gcd a b ∣ a := Nat.gcd_dvd_left a b
  by_cases h : a = 0
  · subst h
    rw [Nat.zero_div, nd_zero]
    simp
  · have : nd (a / Nat.gcd a b) ≠ [] := fun e => by
      have h0 := nd_nil_iff.1 e
      have := Nat.div_pos (Nat.le_of_dvd (by omega) hd) hg
      omega
    rw [decide_eq_true h, decide_eq_true this]
theorem lowQ_yes (s : Bool) (a b : Nat) (hb0 : 0 < b) (h24 : ln (a / Nat.gcd a b) ≤ 24 ∧ ln (b / Nat.gcd a b) ≤ 24) : qn (lowQ s a b) = (s && decide (nd (a / Nat.gcd a b) ≠ [])) ∧ ql (lowQ s a b) = nd (a / Nat.gcd a b) ∧ qd (lowQ s a b) = nd (b / Nat.gcd a b) := by
  obtain ⟨h1, h2, h3⟩ := lowQ_parts s a b hb0
  have hf : Fit (mkRat (sgn s a) b) := by unfold Fit; rw [h1, h2]; exact h24
  have e : lowQ s a b = some (mkRat (sgn s a) b) := by unfold lowQ; rw [if_neg (by omega), cutQ_in hf]
  rw [e]
  refine ⟨h3, ?_, ?_⟩
  · show zm _ = _
    unfold zm; rw [h1]
  · show nd _ = _
    rw [h2]
theorem lowQ_no (s : Bool) (a b : Nat) (h : b = 0 ∨ ¬ (ln (a / Nat.gcd a b) ≤ 24 ∧ ln (b / Nat.gcd a b) ≤ 24)) : lowQ s a b = none := by
  unfold lowQ
  by_cases hb : b = 0
  · rw [if_pos hb]
  · rw [if_neg hb]
    obtain ⟨h1, h2, _⟩ := lowQ_parts s a b (by omega)
    refine cutQ_out ?_
    unfold Fit
    rw [h1, h2]
    rcases h with h | h
    · exact absurd h hb
    · exact h
end Go.Proofs.Ytennekieiioilaa

namespace Go.Proofs.Ytennekieiioilaa
open Go.ChangeShapes Go.WideShapes Go.ChangeAt Go.RowKit
open Go.ChangeMaps (open_string shut_string)
set_option linter.unusedVariables false
set_option linter.unusedSimpArgs false
set_option maxRecDepth 4000

/-- 'l03Make' of a sign and a product. -/
theorem make_z (p : Bool) (v : Nat) (z : Int) (hz : sgn p v = z) (h60 : ln v ≤ 60) : (p && decide (cap60 v ≠ [])) = zn z ∧ cap60 v = zm z := by
  rw [cap60_yes' h60]
  subst hz
  refine ⟨?_, ?_⟩
  · rw [sgn_zn]
    congr 1
    by_cases h : v = 0
    · rw [h, nd_zero]; simp
    · rw [decide_eq_true h, decide_eq_true (nd_pos h)]
  · unfold zm; rw [sgn_abs]

/-- The order of two fractions; 0 where one is none. -/
def cmpO (x y : Option Rat) : Int := match x, y with
  | some r, some s => cmpQ r s
  | _, _ => 0
end Go.Proofs.Ytennekieiioilaa

namespace Go.Proofs.Ytennekieiioilaa
open Go.ChangeShapes Go.WideShapes Go.ChangeAt Go.RowKit
open Go.ChangeMaps (open_string shut_string)
set_option linter.unusedVariables false
set_option linter.unusedSimpArgs false
set_option maxRecDepth 4000

attribute [local go_sem ↓] Go.wp_at_zero Go.wp_at_succ

theorem low_mul (r s : Rat) : lowQ (!(zn r.num == zn s.num)) (r.num.natAbs * s.num.natAbs) (r.den * s.den) = mulQ r s := by
  unfold lowQ mulQ
  rw [if_neg (Nat.mul_ne_zero r.den_nz s.den_nz), Rat.mul_def', show sgn (!(zn r.num == zn s.num)) (r.num.natAbs * s.num.natAbs) = r.num * s.num from times_z r.num s.num]
end Go.Proofs.Ytennekieiioilaa

namespace Go.Proofs.Ytennekieiioilaa
open Go.ChangeShapes Go.WideShapes Go.ChangeAt Go.RowKit
open Go.ChangeMaps (open_string shut_string)
set_option linter.unusedVariables false
set_option linter.unusedSimpArgs false
set_option maxRecDepth 4000

attribute [local go_sem ↓] Go.wp_at_zero Go.wp_at_succ

theorem rd_one {w : World} {g : Nat} {T : TypeId} {x : Int} (P : w.heap[g]? = some (.cells #[.int .i64 x] T (0, 0))) : RdS w (some ⟨g, 0, none⟩) (vi [x]) :=
  .inr ⟨g, 0, rfl, rblk_lt P, fun j hj => by
    have hj' : j = 0 := by simp [vi] at hj; exact hj
    subst hj'
    rw [Nat.zero_add, rblk_cell P 0]
    rfl⟩
theorem low_add (r s : Rat) : lowQ (zn (r.num * s.den + s.num * r.den)) (r.num * s.den + s.num * r.den).natAbs (r.den * s.den) = addQ r s := by
  unfold lowQ addQ
  rw [if_neg (Nat.mul_ne_zero r.den_nz s.den_nz), sgn_z, Rat.add_def']
theorem low_add_one (r s : Rat) (h : r.den = 1) (h' : s.den = 1) : lowQ (zn (r.num + s.num)) (r.num + s.num).natAbs 1 = addQ r s := by
  unfold lowQ addQ
  rw [if_neg (by decide), sgn_z, add_one h h']

end Go.Proofs.Ytennekieiioilaa

namespace Go.Proofs.Ytennekieiioilaa
open Go.ChangeShapes Go.WideShapes Go.ChangeAt Go.RowKit
open Go.ChangeMaps (open_string shut_string)
set_option linter.unusedVariables false
set_option linter.unusedSimpArgs false
set_option maxRecDepth 4000

attribute [local go_sem ↓] Go.wp_at_zero Go.wp_at_succ

end Go.Proofs.Ytennekieiioilaa

