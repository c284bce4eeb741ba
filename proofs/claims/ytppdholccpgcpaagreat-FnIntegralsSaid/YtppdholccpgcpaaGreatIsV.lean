/-
  The program's isVector: a list of n valid fractions.
-/
import Derived.Test.YtppdholccpgcpaaGreatLawP
import Derived.Test.YtppdholccpgcpaaGreatPkF
namespace Go.Proofs.YtppdholccpgcpaaGreat
set_option maxHeartbeats 1000000
open Go.ChangeShapes Go.WideShapes Go.ChangeAt Go.RowKit
set_option linter.unusedVariables false
set_option linter.unusedSimpArgs false
set_option maxRecDepth 4000
attribute [local go_sem ↓] Go.wp_at_zero Go.wp_at_succ
theorem impl_invalid (x : R3) (a : Ad) (w : World) (hl : x.l.length ≤ 9223372036854775807) (hm : x.m.length ≤ 9223372036854775807) (h : Rds w (rows x a)) :
    Calls Tryz.prog 196 #[.agg (r3 x a)] w (fun e w' => e = .returned (.bool (!okx x)) ∧ Below w.heap.size w w') := by
  have HO := Lib.hid (fun W (h : Rds W (rows x a)) => show Calls Tryz.prog 29 #[.agg (r3 x a)] W (fun e w' => e = .returned (.bool (okx x)) ∧ Below W.heap.size W w') from impl_rok x.p x.l x.m a.A a.D _ a.c _ a.d W rfl rfl hl hm (rows_rd h).1 (rows_rd h).2)
  have R : Hid (∀ W, Below w.heap.size w W → Rds W (rows x a)) := Lib.hid (fun W hb => h.below hb)
  generalize okx x = b at HO ⊢
  have P_e := heap_alloc_new w (.cells (r3 x a) 29)
  have kb := ba1 w (.cells (r3 x a) 29)
  have e0 := rblk_cell P_e 0
  have e1 := rblk_cell P_e 1
  have e2 := rblk_cell P_e 2
  clear h hl hm
  go_enter Tryz.func196, Tryz.ntmps196
  go_wp2_with fail
  clear e0 e1 e2
  refine (HO.out _ (R.out _ kb)).mono ?_
  rintro e w2 ⟨rfl, hb⟩
  go_wp2
  go_ret
  exact ⟨rfl, bt kb hb⟩
def AtSome (w : World) (e : Ending) (w' : World) : Prop := ∃ k : Nat, k ≤ 9223372036854775807 ∧ e = .returned (.int .i64 (k : Int)) ∧ Below w.heap.size w w'
theorem index_y (L : List RV) (A : Option Addr) (c : Nat) (w : World) (hn : L.length ≤ 9223372036854775807) (hL : ∀ p, p ∈ L → LenQ p) (hA : RdS w A (flatQ L)) (hR : Rds w (lrowQ L)) (hv : validB L = true) :
    Calls Tryz.prog 132 #[.slice A L.length c, .func (.func 196) #[] #[]] w (fun e w' => e = .returned (.int .i64 (-1)) ∧ Below w.heap.size w w') := by
  have RA : Hid (∀ W, Below w.heap.size w W → RdS W A (flatQ L) ∧ Rds W (lrowQ L)) := Lib.hid (fun W hb => ⟨hA.below hb, hR.below hb⟩)
  have HV := Lib.hid hv
  have HLL := Lib.hid hL
  obtain ⟨n, hnn⟩ : ∃ n, n = L.length := ⟨_, rfl⟩
  rw [← hnn] at hn ⊢
  have HN := Lib.hid hnn
  clear hnn hA hR hL hv
  go_enter Tryz.func132, Tryz.ntmps132
  go_wp2
  go_loopw [8] (fun k w' => ∃ j : Nat, j ≤ n ∧ k = .int .i64 (j : Int) ∧ validB (L.take j) = true ∧ Below w.heap.size w w') (fun k _ => n - (intOf k).toNat)
  case atStart => exact ⟨0, Nat.zero_le _, rfl, rfl, Below.refl _ _⟩
  case round =>
    obtain ⟨j, hj, rfl, hf, kb⟩ := hrel
    by_cases hlt : j < n
    · obtain ⟨p, hp⟩ := getQ (L := L) (i := j) (by rw [← HN.out]; exact hlt)
      obtain ⟨g, o, rfl, _, c0, c1, c2⟩ := (RA.out _ kb).1.three hp
      have lp := HLL.out p (List.mem_of_getElem? hp)
      have HC := Lib.hid (impl_invalid p.x p.a wr lp.1 lp.2 ((RA.out _ kb).2.atQ hp))
      have HT : Hid (validB (L.take (j + 1)) = okx p.x) := Lib.hid (by
        have hv' := hf
        unfold validB at hv' ⊢
        rw [take_succQ hp, List.all_append, hv']; simp)
      have HY : Hid (validB L = true → okx p.x = true) := Lib.hid (fun h => validB_at h hp)
      generalize okx p.x = b at HC HT HY
      have hi0 : (0 : Int) ≤ (j : Int) := by omega
      have hi1 : (j : Int) < (n : Int) := by omega
      clear hp lp hf
      go_wp2_with fail
      clear c0 c1 c2
      refine HC.out.mono ?_
      rintro e w2 ⟨rfl, hb⟩
      have k2 := bt kb hb
      clear hb kb
      cases b with
      | false =>
        exact absurd (HY.out HV.out) (by simp)
      | true =>
        go_wp2
        go_roundw
        case rel => exact ⟨j + 1, hlt, by go_num, HT.out, k2⟩
        case measure => simp [intOf]; omega
    · obtain rfl : j = n := by omega
      clear hf
      go_wp2
      go_ret
      exact ⟨rfl, kb⟩
theorem index_n (L : List RV) (A : Option Addr) (c : Nat) (w : World) (hn : L.length ≤ 9223372036854775807) (hL : ∀ p, p ∈ L → LenQ p) (hA : RdS w A (flatQ L)) (hR : Rds w (lrowQ L)) (hv : validB L = false) :
    Calls Tryz.prog 132 #[.slice A L.length c, .func (.func 196) #[] #[]] w (AtSome w) := by
  have RA : Hid (∀ W, Below w.heap.size w W → RdS W A (flatQ L) ∧ Rds W (lrowQ L)) := Lib.hid (fun W hb => ⟨hA.below hb, hR.below hb⟩)
  have HV := Lib.hid hv
  have HLL := Lib.hid hL
  obtain ⟨n, hnn⟩ : ∃ n, n = L.length := ⟨_, rfl⟩
  rw [← hnn] at hn ⊢
  have HN := Lib.hid hnn
  clear hnn hA hR hL hv
  go_enter Tryz.func132, Tryz.ntmps132
  go_wp2
  go_loopw [8] (fun k w' => ∃ j : Nat, j ≤ n ∧ k = .int .i64 (j : Int) ∧ validB (L.take j) = true ∧ Below w.heap.size w w') (fun k _ => n - (intOf k).toNat)
  case atStart => exact ⟨0, Nat.zero_le _, rfl, rfl, Below.refl _ _⟩
  case round =>
    obtain ⟨j, hj, rfl, hf, kb⟩ := hrel
    by_cases hlt : j < n
    · obtain ⟨p, hp⟩ := getQ (L := L) (i := j) (by rw [← HN.out]; exact hlt)
      obtain ⟨g, o, rfl, _, c0, c1, c2⟩ := (RA.out _ kb).1.three hp
      have lp := HLL.out p (List.mem_of_getElem? hp)
      have HC := Lib.hid (impl_invalid p.x p.a wr lp.1 lp.2 ((RA.out _ kb).2.atQ hp))
      have HT : Hid (validB (L.take (j + 1)) = okx p.x) := Lib.hid (by
        have hv' := hf
        unfold validB at hv' ⊢
        rw [take_succQ hp, List.all_append, hv']; simp)
      have HY : Hid (validB L = true → okx p.x = true) := Lib.hid (fun h => validB_at h hp)
      generalize okx p.x = b at HC HT HY
      have hi0 : (0 : Int) ≤ (j : Int) := by omega
      have hi1 : (j : Int) < (n : Int) := by omega
      clear hp lp hf
      go_wp2_with fail
      clear c0 c1 c2
      refine HC.out.mono ?_
      rintro e w2 ⟨rfl, hb⟩
      have k2 := bt kb hb
      clear hb kb
      cases b with
      | false =>
        go_wp2
        go_ret
        exact ⟨j, by omega, rfl, k2⟩
      | true =>
        go_wp2
        go_roundw
        case rel => exact ⟨j + 1, hlt, by go_num, HT.out, k2⟩
        case measure => simp [intOf]; omega
    · obtain rfl : j = n := by omega
      rw [show L.take j = L by rw [HN.out, List.take_length], HV.out] at hf
      cases hf
theorem contains_q (L : List RV) (A : Option Addr) (c : Nat) (w : World) (hn : L.length ≤ 9223372036854775807) (hL : ∀ p, p ∈ L → LenQ p) (hA : RdS w A (flatQ L)) (hR : Rds w (lrowQ L)) :
    Calls Tryz.prog 67 #[.slice A L.length c, .func (.func 196) #[] #[]] w (fun e w' => e = .returned (.bool (!validB L)) ∧ Below w.heap.size w w') := by
  cases hv : validB L with
  | true =>
    have HI := Lib.hid (index_y L A c w hn hL hA hR hv)
    generalize L.length = n at HI ⊢
    clear hv hn hL hA hR
    go_enter Tryz.func67, Tryz.ntmps67
    go_wp2_with fail
    refine HI.out.mono ?_
    rintro e w2 ⟨rfl, hb⟩
    go_wp2
    go_ret
    exact ⟨rfl, hb⟩
  | false =>
    have HI := Lib.hid (index_n L A c w hn hL hA hR hv)
    generalize L.length = n at HI ⊢
    unfold AtSome at HI
    clear hv hn hL hA hR
    go_enter Tryz.func67, Tryz.ntmps67
    go_wp2_with fail
    refine HI.out.mono ?_
    rintro e w2 ⟨k, hk, rfl, hb⟩
    have q : decide ((k : Int) ≥ 0) = true := by simp
    have q2 : decide ((0 : Int) ≤ (k : Int)) = true := by simp
    go_wp2
    go_ret
    exact ⟨by simp, hb⟩
theorem isVector_q (L : List RV) (A : Option Addr) (c m : Nat) (w : World) (hn : L.length ≤ 9223372036854775807) (hm : m ≤ 9223372036854775807) (hL : ∀ p, p ∈ L → LenQ p) (hA : RdS w A (flatQ L)) (hR : Rds w (lrowQ L)) :
    Calls Tryz.prog 160 #[.slice A L.length c, .int .i64 (m : Int)] w (fun e w' => e = .returned (.bool (decide (L.length = m) && validB L)) ∧ Below w.heap.size w w') := by
  have HC := Lib.hid (contains_q L A c w hn hL hA hR)
  generalize validB L = b at HC ⊢
  generalize L.length = n at *
  clear hL hA hR
  by_cases h : n = m
  · have q : ((n : Int) == (m : Int)) = true := by simp [h]
    rw [decide_eq_true h, Bool.true_and]
    clear h
    go_enter Tryz.func160, Tryz.ntmps160
    go_wp2_with fail
    refine HC.out.mono ?_
    rintro e w2 ⟨rfl, hb⟩
    go_wp2
    go_ret
    exact ⟨by simp, hb⟩
  · have q : ((n : Int) == (m : Int)) = false := by rw [beq_eq_false_iff_ne]; omega
    rw [decide_eq_false h, Bool.false_and]
    clear h
    go_enter Tryz.func160, Tryz.ntmps160
    go_wp2
    go_ret
    exact ⟨rfl, Below.refl _ _⟩
end Go.Proofs.YtppdholccpgcpaaGreat
