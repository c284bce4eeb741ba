/-
  Is an element of a list missing? (Rat)
-/
import Derived.Test.YtppdholccpgcpaaGreatLawP
import Derived.Test.YtppdholccpgcpaaGreatRl
import Derived.Test.YtppdholccpgcpaaGreatPkF
import Derived.Test.YtppdholccpgcpaaGreatStore
namespace Go.Proofs.YtppdholccpgcpaaGreat
set_option maxHeartbeats 1000000
open Go.ChangeShapes Go.WideShapes Go.ChangeAt Go.RowKit
set_option linter.unusedVariables false
set_option linter.unusedSimpArgs false
set_option maxRecDepth 4000
def fullQ (L : List RV) : Bool := L.all (fun p => decide (0 < p.x.m.length))
theorem fullQ_at {L : List RV} (h : fullQ L = true) {i : Nat} {p : RV} (hp : L[i]? = some p) : decide (0 < p.x.m.length) = true := by
  unfold fullQ at h
  exact List.all_eq_true.1 h p (List.mem_of_getElem? hp)
theorem fullQ_take {L : List RV} {j : Nat} {p : RV} (h : fullQ (L.take j) = true) (hp : L[j]? = some p) : fullQ (L.take (j + 1)) = decide (0 < p.x.m.length) := by
  have e : L.take (j + 1) = L.take j ++ [p] := by rw [List.take_add_one, hp]; rfl
  unfold fullQ at h ⊢
  rw [e, List.all_append, h]; simp
attribute [local go_sem ↓] Go.wp_at_zero Go.wp_at_succ
theorem missing_Q (p : RV) (w : World) (hm : p.x.m.length ≤ 9223372036854775807) :
    Calls Tryz.prog 65 #[.agg (r3 p.x p.a)] w (fun e w' => e = .returned (.bool (!decide (0 < p.x.m.length))) ∧ Below w.heap.size w w') := by
  have HO := Lib.hid (fun W => exists_any p.x.p p.a.A p.a.D p.x.l.length p.x.m.length p.a.c p.a.d W hm)
  generalize decide (0 < p.x.m.length) = b at HO ⊢
  have P_e := heap_alloc_new w (.cells (r3 p.x p.a) 29)
  have kb := ba1 w (.cells (r3 p.x p.a) 29)
  have e0 := rblk_cell P_e 0
  have e1 := rblk_cell P_e 1
  have e2 := rblk_cell P_e 2
  clear hm
  go_enter Tryz.func65, Tryz.ntmps65
  go_wp2_with fail
  clear e0 e1 e2
  refine (HO.out _).mono ?_
  rintro e w2 ⟨rfl, hb⟩
  go_wp2
  go_ret
  exact ⟨rfl, bt kb hb⟩
def AtSomeQ (w : World) (e : Ending) (w' : World) : Prop := ∃ k : Nat, k ≤ 9223372036854775807 ∧ e = .returned (.int .i64 (k : Int)) ∧ Below w.heap.size w w'
theorem iyQ (L : List RV) (A : Option Addr) (c : Nat) (w : World) (hn : L.length ≤ 9223372036854775807) (hL : ∀ p, p ∈ L → LenQ p) (hA : RdS w A (flatQ L)) (hv : fullQ L = true) :
    Calls Tryz.prog 132 #[.slice A L.length c, .func (.func 65) #[] #[]] w (fun e w' => e = .returned (.int .i64 (-1)) ∧ Below w.heap.size w w') := by
  have RA : Hid (∀ W, Below w.heap.size w W → RdS W A (flatQ L)) := Lib.hid (fun W hb => hA.below hb)
  have HV := Lib.hid hv
  have HLL := Lib.hid hL
  obtain ⟨n, hnn⟩ : ∃ n, n = L.length := ⟨_, rfl⟩
  rw [← hnn] at hn ⊢
  have HN := Lib.hid hnn
  clear hnn hA hL hv
  go_enter Tryz.func132, Tryz.ntmps132
  go_wp2
  go_loopw [8] (fun k w' => ∃ j : Nat, j ≤ n ∧ k = .int .i64 (j : Int) ∧ fullQ (L.take j) = true ∧ Below w.heap.size w w') (fun k _ => n - (intOf k).toNat)
  case atStart => exact ⟨0, Nat.zero_le _, rfl, rfl, Below.refl _ _⟩
  case round =>
    obtain ⟨j, hj, rfl, hf, kb⟩ := hrel
    by_cases hlt : j < n
    · obtain ⟨p, hp⟩ := getQ (L := L) (i := j) (by rw [← HN.out]; exact hlt)
      obtain ⟨g, o, rfl, _, c0, c1, c2⟩ := (RA.out _ kb).three hp
      have lp := HLL.out p (List.mem_of_getElem? hp)
      have HC := Lib.hid (missing_Q p wr lp.2)
      have HT : Hid (fullQ (L.take (j + 1)) = decide (0 < p.x.m.length)) := Lib.hid (fullQ_take hf hp)
      have HY : Hid (fullQ L = true → decide (0 < p.x.m.length) = true) := Lib.hid (fun h => fullQ_at h hp)
      generalize decide (0 < p.x.m.length) = b at HC HT HY
      have hi0 : (0 : Int) ≤ (j : Int) := by omega
      have hi1 : (j : Int) < (n : Int) := by omega
      clear hp lp hf
      go_wp2_with fail
      clear c0 c1 c2
      refine HC.out.mono ?_
      rintro e w2 ⟨rfl, hb⟩
      have k2 := bt kb hb
      clear hb kb
      cases b with
      | false =>
        exact absurd (HY.out HV.out) (by simp)
      | true =>
        go_wp2
        go_roundw
        case rel => exact ⟨j + 1, hlt, by go_num, HT.out, k2⟩
        case measure => simp [intOf]; omega
    · obtain rfl : j = n := by omega
      clear hf
      go_wp2
      go_ret
      exact ⟨rfl, kb⟩
theorem inQ (L : List RV) (A : Option Addr) (c : Nat) (w : World) (hn : L.length ≤ 9223372036854775807) (hL : ∀ p, p ∈ L → LenQ p) (hA : RdS w A (flatQ L)) (hv : fullQ L = false) :
    Calls Tryz.prog 132 #[.slice A L.length c, .func (.func 65) #[] #[]] w (AtSomeQ w) := by
  have RA : Hid (∀ W, Below w.heap.size w W → RdS W A (flatQ L)) := Lib.hid (fun W hb => hA.below hb)
  have HV := Lib.hid hv
  have HLL := Lib.hid hL
  obtain ⟨n, hnn⟩ : ∃ n, n = L.length := ⟨_, rfl⟩
  rw [← hnn] at hn ⊢
  have HN := Lib.hid hnn
  clear hnn hA hL hv
  go_enter Tryz.func132, Tryz.ntmps132
  go_wp2
  go_loopw [8] (fun k w' => ∃ j : Nat, j ≤ n ∧ k = .int .i64 (j : Int) ∧ fullQ (L.take j) = true ∧ Below w.heap.size w w') (fun k _ => n - (intOf k).toNat)
  case atStart => exact ⟨0, Nat.zero_le _, rfl, rfl, Below.refl _ _⟩
  case round =>
    obtain ⟨j, hj, rfl, hf, kb⟩ := hrel
    by_cases hlt : j < n
    · obtain ⟨p, hp⟩ := getQ (L := L) (i := j) (by rw [← HN.out]; exact hlt)
      obtain ⟨g, o, rfl, _, c0, c1, c2⟩ := (RA.out _ kb).three hp
      have lp := HLL.out p (List.mem_of_getElem? hp)
      have HC := Lib.hid (missing_Q p wr lp.2)
      have HT : Hid (fullQ (L.take (j + 1)) = decide (0 < p.x.m.length)) := Lib.hid (fullQ_take hf hp)
      have HY : Hid (fullQ L = true → decide (0 < p.x.m.length) = true) := Lib.hid (fun h => fullQ_at h hp)
      generalize decide (0 < p.x.m.length) = b at HC HT HY
      have hi0 : (0 : Int) ≤ (j : Int) := by omega
      have hi1 : (j : Int) < (n : Int) := by omega
      clear hp lp hf
      go_wp2_with fail
      clear c0 c1 c2
      refine HC.out.mono ?_
      rintro e w2 ⟨rfl, hb⟩
      have k2 := bt kb hb
      clear hb kb
      cases b with
      | false =>
        go_wp2
        go_ret
        exact ⟨j, by omega, rfl, k2⟩
      | true =>
        go_wp2
        go_roundw
        case rel => exact ⟨j + 1, hlt, by go_num, HT.out, k2⟩
        case measure => simp [intOf]; omega
    · obtain rfl : j = n := by omega
      rw [show L.take j = L by rw [HN.out, List.take_length], HV.out] at hf
      cases hf
theorem contains_Q (L : List RV) (A : Option Addr) (c : Nat) (w : World) (hn : L.length ≤ 9223372036854775807) (hL : ∀ p, p ∈ L → LenQ p) (hA : RdS w A (flatQ L)) :
    Calls Tryz.prog 67 #[.slice A L.length c, .func (.func 65) #[] #[]] w (fun e w' => e = .returned (.bool (!fullQ L)) ∧ Below w.heap.size w w') := by
  cases hv : fullQ L with
  | true =>
    have HI := Lib.hid (iyQ L A c w hn hL hA hv)
    generalize L.length = n at HI ⊢
    clear hv hn hL hA
    go_enter Tryz.func67, Tryz.ntmps67
    go_wp2_with fail
    refine HI.out.mono ?_
    rintro e w2 ⟨rfl, hb⟩
    go_wp2
    go_ret
    exact ⟨rfl, hb⟩
  | false =>
    have HI := Lib.hid (inQ L A c w hn hL hA hv)
    generalize L.length = n at HI ⊢
    unfold AtSomeQ at HI
    clear hv hn hL hA
    go_enter Tryz.func67, Tryz.ntmps67
    go_wp2_with fail
    refine HI.out.mono ?_
    rintro e w2 ⟨k, hk, rfl, hb⟩
    have q : decide ((k : Int) ≥ 0) = true := by simp
    have q2 : decide ((0 : Int) ≤ (k : Int)) = true := by simp
    go_wp2
    go_ret
    exact ⟨by simp, hb⟩
end Go.Proofs.YtppdholccpgcpaaGreat
