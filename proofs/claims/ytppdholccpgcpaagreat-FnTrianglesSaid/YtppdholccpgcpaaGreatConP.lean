/-
  Is an element of a list missing? (Point)
-/
import Derived.Test.YtppdholccpgcpaaGreatLawP
import Derived.Test.YtppdholccpgcpaaGreatGrM0
namespace Go.Proofs.YtppdholccpgcpaaGreat
set_option maxHeartbeats 1000000
open Go.ChangeShapes Go.WideShapes Go.ChangeAt Go.RowKit
set_option linter.unusedVariables false
set_option linter.unusedSimpArgs false
set_option maxRecDepth 4000
def fullP (L : List PV) : Bool := L.all (fun p => decide (0 < p.x.m.length))
theorem fullP_at {L : List PV} (h : fullP L = true) {i : Nat} {p : PV} (hp : L[i]? = some p) : decide (0 < p.x.m.length) = true := by
  unfold fullP at h
  exact List.all_eq_true.1 h p (List.mem_of_getElem? hp)
theorem fullP_take {L : List PV} {j : Nat} {p : PV} (h : fullP (L.take j) = true) (hp : L[j]? = some p) : fullP (L.take (j + 1)) = decide (0 < p.x.m.length) := by
  have e : L.take (j + 1) = L.take j ++ [p] := by rw [List.take_add_one, hp]; rfl
  unfold fullP at h ⊢
  rw [e, List.all_append, h]; simp
attribute [local go_sem ↓] Go.wp_at_zero Go.wp_at_succ
theorem missing_P (p : PV) (w : World) (hm : p.x.m.length ≤ 9223372036854775807) :
    Calls Tryz.prog 69 #[.agg (p6 p)] w (fun e w' => e = .returned (.bool (!decide (0 < p.x.m.length))) ∧ Below w.heap.size w w') := by
  have HO := Lib.hid (fun W => exists_any p.x.p p.a.A p.a.D p.x.l.length p.x.m.length p.a.c p.a.d W hm)
  generalize decide (0 < p.x.m.length) = b at HO ⊢
  have P_e := heap_alloc_new w (.cells (p6 p) 31)
  have kb := ba1 w (.cells (p6 p) 31)
  have e0 := rblk_cell P_e 0
  have e1 := rblk_cell P_e 1
  have e2 := rblk_cell P_e 2
  clear hm
  go_enter Tryz.func69, Tryz.ntmps69
  go_wp2_with fail
  clear e0 e1 e2
  refine (HO.out _).mono ?_
  rintro e w2 ⟨rfl, hb⟩
  go_wp2
  go_ret
  exact ⟨rfl, bt kb hb⟩
def AtSomeP (w : World) (e : Ending) (w' : World) : Prop := ∃ k : Nat, k ≤ 9223372036854775807 ∧ e = .returned (.int .i64 (k : Int)) ∧ Below w.heap.size w w'
theorem iyP (L : List PV) (A : Option Addr) (c : Nat) (w : World) (hn : L.length ≤ 9223372036854775807) (hL : ∀ p, p ∈ L → LenP p) (hA : RdS w A (flat L)) (hv : fullP L = true) :
    Calls Tryz.prog 135 #[.slice A L.length c, .func (.func 69) #[] #[]] w (fun e w' => e = .returned (.int .i64 (-1)) ∧ Below w.heap.size w w') := by
  have RA : Hid (∀ W, Below w.heap.size w W → RdS W A (flat L)) := Lib.hid (fun W hb => hA.below hb)
  have HV := Lib.hid hv
  have HLL := Lib.hid hL
  obtain ⟨n, hnn⟩ : ∃ n, n = L.length := ⟨_, rfl⟩
  rw [← hnn] at hn ⊢
  have HN := Lib.hid hnn
  clear hnn hA hL hv
  go_enter Tryz.func135, Tryz.ntmps135
  go_wp2
  go_loopw [8] (fun k w' => ∃ j : Nat, j ≤ n ∧ k = .int .i64 (j : Int) ∧ fullP (L.take j) = true ∧ Below w.heap.size w w') (fun k _ => n - (intOf k).toNat)
  case atStart => exact ⟨0, Nat.zero_le _, rfl, rfl, Below.refl _ _⟩
  case round =>
    obtain ⟨j, hj, rfl, hf, kb⟩ := hrel
    by_cases hlt : j < n
    · obtain ⟨p, hp⟩ := getP (L := L) (i := j) (by rw [← HN.out]; exact hlt)
      obtain ⟨g, o, rfl, _, c0, c1, c2, c3, c4, c5⟩ := (RA.out _ kb).six hp
      have lp := HLL.out p (List.mem_of_getElem? hp)
      have HC := Lib.hid (missing_P p wr lp.1.2)
      have HT : Hid (fullP (L.take (j + 1)) = decide (0 < p.x.m.length)) := Lib.hid (fullP_take hf hp)
      have HY : Hid (fullP L = true → decide (0 < p.x.m.length) = true) := Lib.hid (fun h => fullP_at h hp)
      generalize decide (0 < p.x.m.length) = b at HC HT HY
      have hi0 : (0 : Int) ≤ (j : Int) := by omega
      have hi1 : (j : Int) < (n : Int) := by omega
      clear hp lp hf
      go_wp2_with fail
      clear c0 c1 c2 c3 c4 c5
      refine HC.out.mono ?_
      rintro e w2 ⟨rfl, hb⟩
      have k2 := bt kb hb
      clear hb kb
      cases b with
      | false =>
        exact absurd (HY.out HV.out) (by simp)
      | true =>
        go_wp2
        go_roundw
        case rel => exact ⟨j + 1, hlt, by go_num, HT.out, k2⟩
        case measure => simp [intOf]; omega
    · obtain rfl : j = n := by omega
      clear hf
      go_wp2
      go_ret
      exact ⟨rfl, kb⟩
theorem inP (L : List PV) (A : Option Addr) (c : Nat) (w : World) (hn : L.length ≤ 9223372036854775807) (hL : ∀ p, p ∈ L → LenP p) (hA : RdS w A (flat L)) (hv : fullP L = false) :
    Calls Tryz.prog 135 #[.slice A L.length c, .func (.func 69) #[] #[]] w (AtSomeP w) := by
  have RA : Hid (∀ W, Below w.heap.size w W → RdS W A (flat L)) := Lib.hid (fun W hb => hA.below hb)
  have HV := Lib.hid hv
  have HLL := Lib.hid hL
  obtain ⟨n, hnn⟩ : ∃ n, n = L.length := ⟨_, rfl⟩
  rw [← hnn] at hn ⊢
  have HN := Lib.hid hnn
  clear hnn hA hL hv
  go_enter Tryz.func135, Tryz.ntmps135
  go_wp2
  go_loopw [8] (fun k w' => ∃ j : Nat, j ≤ n ∧ k = .int .i64 (j : Int) ∧ fullP (L.take j) = true ∧ Below w.heap.size w w') (fun k _ => n - (intOf k).toNat)
  case atStart => exact ⟨0, Nat.zero_le _, rfl, rfl, Below.refl _ _⟩
  case round =>
    obtain ⟨j, hj, rfl, hf, kb⟩ := hrel
    by_cases hlt : j < n
    · obtain ⟨p, hp⟩ := getP (L := L) (i := j) (by rw [← HN.out]; exact hlt)
      obtain ⟨g, o, rfl, _, c0, c1, c2, c3, c4, c5⟩ := (RA.out _ kb).six hp
      have lp := HLL.out p (List.mem_of_getElem? hp)
      have HC := Lib.hid (missing_P p wr lp.1.2)
      have HT : Hid (fullP (L.take (j + 1)) = decide (0 < p.x.m.length)) := Lib.hid (fullP_take hf hp)
      have HY : Hid (fullP L = true → decide (0 < p.x.m.length) = true) := Lib.hid (fun h => fullP_at h hp)
      generalize decide (0 < p.x.m.length) = b at HC HT HY
      have hi0 : (0 : Int) ≤ (j : Int) := by omega
      have hi1 : (j : Int) < (n : Int) := by omega
      clear hp lp hf
      go_wp2_with fail
      clear c0 c1 c2 c3 c4 c5
      refine HC.out.mono ?_
      rintro e w2 ⟨rfl, hb⟩
      have k2 := bt kb hb
      clear hb kb
      cases b with
      | false =>
        go_wp2
        go_ret
        exact ⟨j, by omega, rfl, k2⟩
      | true =>
        go_wp2
        go_roundw
        case rel => exact ⟨j + 1, hlt, by go_num, HT.out, k2⟩
        case measure => simp [intOf]; omega
    · obtain rfl : j = n := by omega
      rw [show L.take j = L by rw [HN.out, List.take_length], HV.out] at hf
      cases hf
theorem contains_P (L : List PV) (A : Option Addr) (c : Nat) (w : World) (hn : L.length ≤ 9223372036854775807) (hL : ∀ p, p ∈ L → LenP p) (hA : RdS w A (flat L)) :
    Calls Tryz.prog 70 #[.slice A L.length c, .func (.func 69) #[] #[]] w (fun e w' => e = .returned (.bool (!fullP L)) ∧ Below w.heap.size w w') := by
  cases hv : fullP L with
  | true =>
    have HI := Lib.hid (iyP L A c w hn hL hA hv)
    generalize L.length = n at HI ⊢
    clear hv hn hL hA
    go_enter Tryz.func70, Tryz.ntmps70
    go_wp2_with fail
    refine HI.out.mono ?_
    rintro e w2 ⟨rfl, hb⟩
    go_wp2
    go_ret
    exact ⟨rfl, hb⟩
  | false =>
    have HI := Lib.hid (inP L A c w hn hL hA hv)
    generalize L.length = n at HI ⊢
    unfold AtSomeP at HI
    clear hv hn hL hA
    go_enter Tryz.func70, Tryz.ntmps70
    go_wp2_with fail
    refine HI.out.mono ?_
    rintro e w2 ⟨k, hk, rfl, hb⟩
    have q : decide ((k : Int) ≥ 0) = true := by simp
    have q2 : decide ((0 : Int) ≤ (k : Int)) = true := by simp
    go_wp2
    go_ret
    exact ⟨by simp, hb⟩
end Go.Proofs.YtppdholccpgcpaaGreat
