/-
  The program's allOrNone.
-/
import Derived.Test.YtennekieiioilaaGreatRl
import Derived.Test.YtennekieiioilaaGreatPkF
import Derived.Test.YtennekieiioilaaGreatStore
import Derived.Test.YtennekieiioilaaGreatValB
import Derived.Test.YtennekieiioilaaGreatApW
import Derived.Test.YtennekieiioilaaGreatPtQ
namespace Go.Proofs.YtennekieiioilaaGreat
open Go.ChangeShapes Go.WideShapes Go.ChangeAt Go.RowKit
open Go.ChangeMaps (open_string shut_string)
set_option linter.unusedVariables false
set_option linter.unusedSimpArgs false
set_option maxRecDepth 4000

def fullA (L : List RV) : Bool := L.all (fun p => decide (0 < p.x.m.length))
theorem fullA_at {L : List RV} (h : fullA L = true) {i : Nat} {p : RV} (hp : L[i]? = some p) : decide (0 < p.x.m.length) = true := by
  unfold fullA at h
  exact List.all_eq_true.1 h p (List.mem_of_getElem? hp)
theorem fullA_take {L : List RV} {j : Nat} {p : RV} (h : fullA (L.take j) = true) (hp : L[j]? = some p) : fullA (L.take (j + 1)) = decide (0 < p.x.m.length) := by
  have e : L.take (j + 1) = L.take j ++ [p] := by rw [List.take_add_one, hp]; rfl
  unfold fullA at h ⊢
  rw [e, List.all_append, h]; simp
attribute [local go_sem ↓] Go.wp_at_zero Go.wp_at_succ
set_option maxHeartbeats 1000000 in
theorem missing_A (p : RV) (w : World) (hm : p.x.m.length ≤ 9223372036854775807) :
    Calls Tryz.prog 99 #[.agg #[.bool p.x.p, .slice p.a.A p.x.l.length p.a.c, .slice p.a.D p.x.m.length p.a.d]] w (fun e w' => e = .returned (.bool (!decide (0 < p.x.m.length))) ∧ Below w.heap.size w w') := by
  have HO := Lib.hid (fun W => exists_any p.x.p p.a.A p.a.D p.x.l.length p.x.m.length p.a.c p.a.d W hm)
  generalize decide (0 < p.x.m.length) = b at HO ⊢
  have P_e := heap_alloc_new w (.cells #[.bool p.x.p, .slice p.a.A p.x.l.length p.a.c, .slice p.a.D p.x.m.length p.a.d] 30)
  have kb := ba1 w (.cells #[.bool p.x.p, .slice p.a.A p.x.l.length p.a.c, .slice p.a.D p.x.m.length p.a.d] 30)
  have e0 : (w.alloc (.cells #[.bool p.x.p, .slice p.a.A p.x.l.length p.a.c, .slice p.a.D p.x.m.length p.a.d] 30)).cell? ⟨w.heap.size, 0, none⟩ = some (.bool p.x.p) := rblk_cell P_e 0
  have e1 : (w.alloc (.cells #[.bool p.x.p, .slice p.a.A p.x.l.length p.a.c, .slice p.a.D p.x.m.length p.a.d] 30)).cell? ⟨w.heap.size, 1, none⟩ = some (.slice p.a.A p.x.l.length p.a.c) := rblk_cell P_e 1
  have e2 : (w.alloc (.cells #[.bool p.x.p, .slice p.a.A p.x.l.length p.a.c, .slice p.a.D p.x.m.length p.a.d] 30)).cell? ⟨w.heap.size, 2, none⟩ = some (.slice p.a.D p.x.m.length p.a.d) := rblk_cell P_e 2
  clear hm
  go_enter Tryz.func99, Tryz.ntmps99
  go_wp2_with fail
  clear e0 e1 e2
  refine (HO.out _).mono ?_
  rintro e w2 ⟨rfl, hb⟩
  go_wp2
  go_ret
  exact ⟨rfl, bt kb hb⟩
/-- An index from 0 on. -/
def AtSomeA (w : World) (e : Ending) (w' : World) : Prop := ∃ k : Nat, k ≤ 9223372036854775807 ∧ e = .returned (.int .i64 (k : Int)) ∧ Below w.heap.size w w'
set_option maxHeartbeats 1000000 in
theorem iyA (L : List RV) (A : Option Addr) (c : Nat) (w : World) (hn : L.length ≤ 9223372036854775807) (hL : ∀ p, p ∈ L → LenQ p) (hA : RdS w A (flatQ L)) (hv : fullA L = true) :
    Calls Tryz.prog 92 #[.slice A L.length c, .func (.func 99) #[] #[]] w (fun e w' => e = .returned (.int .i64 (-1)) ∧ Below w.heap.size w w') := by
  have RA : Hid (∀ W, Below w.heap.size w W → RdS W A (flatQ L)) := Lib.hid (fun W hb => hA.below hb)
  have HV := Lib.hid hv
  have HLL := Lib.hid hL
  obtain ⟨n, hnn⟩ : ∃ n, n = L.length := ⟨_, rfl⟩
  rw [← hnn] at hn ⊢
  have HN := Lib.hid hnn
  clear hnn hA hL hv
  go_enter Tryz.func92, Tryz.ntmps92
  go_wp2
  go_loopw [8] (fun k w' => ∃ j : Nat, j ≤ n ∧ k = .int .i64 (j : Int) ∧ fullA (L.take j) = true ∧ Below w.heap.size w w') (fun k _ => n - (intOf k).toNat)
  case atStart => exact ⟨0, Nat.zero_le _, rfl, rfl, Below.refl _ _⟩
  case round =>
    obtain ⟨j, hj, rfl, hf, kb⟩ := hrel
    by_cases hlt : j < n
    · obtain ⟨p, hp⟩ := getQ (L := L) (i := j) (by rw [← HN.out]; exact hlt)
      obtain ⟨g, o, rfl, _, c0, c1, c2⟩ := (RA.out _ kb).three hp
      have lp := HLL.out p (List.mem_of_getElem? hp)
      have HC := Lib.hid (missing_A p wr lp.2)
      have HT : Hid (fullA (L.take (j + 1)) = decide (0 < p.x.m.length)) := Lib.hid (fullA_take hf hp)
      have HY : Hid (fullA L = true → decide (0 < p.x.m.length) = true) := Lib.hid (fun h => fullA_at h hp)
      generalize decide (0 < p.x.m.length) = b at HC HT HY
      have hi0 : (0 : Int) ≤ (j : Int) := by omega
      have hi1 : (j : Int) < (n : Int) := by omega
      clear hp lp hf
      go_wp2_with fail
      clear c0 c1 c2
      refine HC.out.mono ?_
      rintro e w2 ⟨rfl, hb⟩
      have k2 := bt kb hb
      clear hb kb
      cases b with
      | false =>
        exact absurd (HY.out HV.out) (by simp)
      | true =>
        go_wp2
        go_roundw
        case rel => exact ⟨j + 1, hlt, by go_num, HT.out, k2⟩
        case measure => simp [intOf]; omega
    · obtain rfl : j = n := by omega
      clear hf
      go_wp2
      go_ret
      exact ⟨rfl, kb⟩
set_option maxHeartbeats 1000000 in
theorem inA (L : List RV) (A : Option Addr) (c : Nat) (w : World) (hn : L.length ≤ 9223372036854775807) (hL : ∀ p, p ∈ L → LenQ p) (hA : RdS w A (flatQ L)) (hv : fullA L = false) :
    Calls Tryz.prog 92 #[.slice A L.length c, .func (.func 99) #[] #[]] w (AtSomeA w) := by
  have RA : Hid (∀ W, Below w.heap.size w W → RdS W A (flatQ L)) := Lib.hid (fun W hb => hA.below hb)
  have HV := Lib.hid hv
  have HLL := Lib.hid hL
  obtain ⟨n, hnn⟩ : ∃ n, n = L.length := ⟨_, rfl⟩
  rw [← hnn] at hn ⊢
  have HN := Lib.hid hnn
  clear hnn hA hL hv
  go_enter Tryz.func92, Tryz.ntmps92
  go_wp2
  go_loopw [8] (fun k w' => ∃ j : Nat, j ≤ n ∧ k = .int .i64 (j : Int) ∧ fullA (L.take j) = true ∧ Below w.heap.size w w') (fun k _ => n - (intOf k).toNat)
  case atStart => exact ⟨0, Nat.zero_le _, rfl, rfl, Below.refl _ _⟩
  case round =>
    obtain ⟨j, hj, rfl, hf, kb⟩ := hrel
    by_cases hlt : j < n
    · obtain ⟨p, hp⟩ := getQ (L := L) (i := j) (by rw [← HN.out]; exact hlt)
      obtain ⟨g, o, rfl, _, c0, c1, c2⟩ := (RA.out _ kb).three hp
      have lp := HLL.out p (List.mem_of_getElem? hp)
      have HC := Lib.hid (missing_A p wr lp.2)
      have HT : Hid (fullA (L.take (j + 1)) = decide (0 < p.x.m.length)) := Lib.hid (fullA_take hf hp)
      have HY : Hid (fullA L = true → decide (0 < p.x.m.length) = true) := Lib.hid (fun h => fullA_at h hp)
      generalize decide (0 < p.x.m.length) = b at HC HT HY
      have hi0 : (0 : Int) ≤ (j : Int) := by omega
      have hi1 : (j : Int) < (n : Int) := by omega
      clear hp lp hf
      go_wp2_with fail
      clear c0 c1 c2
      refine HC.out.mono ?_
      rintro e w2 ⟨rfl, hb⟩
      have k2 := bt kb hb
      clear hb kb
      cases b with
      | false =>
        go_wp2
        go_ret
        exact ⟨j, by omega, rfl, k2⟩
      | true =>
        go_wp2
        go_roundw
        case rel => exact ⟨j + 1, hlt, by go_num, HT.out, k2⟩
        case measure => simp [intOf]; omega
    · obtain rfl : j = n := by omega
      rw [show L.take j = L by rw [HN.out, List.take_length], HV.out] at hf
      cases hf
set_option maxHeartbeats 1000000 in
theorem contains_A (L : List RV) (A : Option Addr) (c : Nat) (w : World) (hn : L.length ≤ 9223372036854775807) (hL : ∀ p, p ∈ L → LenQ p) (hA : RdS w A (flatQ L)) :
    Calls Tryz.prog 70 #[.slice A L.length c, .func (.func 99) #[] #[]] w (fun e w' => e = .returned (.bool (!fullA L)) ∧ Below w.heap.size w w') := by
  cases hv : fullA L with
  | true =>
    have HI := Lib.hid (iyA L A c w hn hL hA hv)
    generalize L.length = n at HI ⊢
    clear hv hn hL hA
    go_enter Tryz.func70, Tryz.ntmps70
    go_wp2_with fail
    refine HI.out.mono ?_
    rintro e w2 ⟨rfl, hb⟩
    go_wp2
    go_ret
    exact ⟨rfl, hb⟩
  | false =>
    have HI := Lib.hid (inA L A c w hn hL hA hv)
    generalize L.length = n at HI ⊢
    unfold AtSomeA at HI
    clear hv hn hL hA
    go_enter Tryz.func70, Tryz.ntmps70
    go_wp2_with fail
    refine HI.out.mono ?_
    rintro e w2 ⟨k, hk, rfl, hb⟩
    have q : decide ((k : Int) ≥ 0) = true := by simp
    have q2 : decide ((0 : Int) ≤ (k : Int)) = true := by simp
    go_wp2
    go_ret
    exact ⟨by simp, hb⟩
end Go.Proofs.YtennekieiioilaaGreat
namespace Go.Proofs.YtennekieiioilaaGreat
open Go.ChangeShapes Go.WideShapes Go.ChangeAt Go.RowKit
open Go.ChangeMaps (open_string shut_string)
set_option linter.unusedVariables false
set_option linter.unusedSimpArgs false
set_option maxRecDepth 4000

theorem ex_ofO {o : Option Rat} (h : FitO o) : decide (0 < (ofO o).m.length) = okx (ofO o) := by
  rw [okx_ofO h]
  cases o with
  | none => rfl
  | some r =>
    have h1 : (ofO (some r)).m = nd r.den := rfl
    rw [h1]
    have h2 := List.length_pos_iff.2 (nd_pos r.den_nz)
    simp [h2]
theorem fullA_valid {L : List RV} (h : ∀ q, q ∈ L → ∃ o, q.x = ofO o ∧ FitO o) : fullA L = validB L := by
  unfold fullA validB
  induction L with
  | nil => rfl
  | cons q L ih =>
    obtain ⟨o, h1, h2⟩ := h q List.mem_cons_self
    rw [List.all_cons, List.all_cons, ih (fun p hp => h p (List.mem_cons_of_mem _ hp)), h1, ex_ofO h2]
attribute [local go_sem ↓] Go.wp_at_zero Go.wp_at_succ
set_option maxHeartbeats 1000000 in
theorem impl_allOrNone (L : List RV) (A : Option Addr) (c : Nat) (w : World) (hn : L.length ≤ 9223372036854775807) (hf : ∀ q, q ∈ L → ∃ o, q.x = ofO o ∧ FitO o) (hA : RdS w A (flatQ L)) :
    Calls Tryz.prog 73 #[.slice A L.length c] w (fun e w' => e = .returned (if validB L = true then .slice A L.length c else .slice none 0 0) ∧ Below w.heap.size w w') := by
  have HV := Lib.hid (contains_A L A c w hn (fun q hq => by
    obtain ⟨o, h1, h2⟩ := hf q hq
    have h3 := h2.len
    rw [← h1] at h3
    unfold LenQ; omega) hA)
  rw [fullA_valid hf] at HV
  clear hA hf
  generalize L.length = n at *
  cases hv : validB L with
  | true =>
    rw [hv] at HV
    rw [if_pos rfl]
    clear hv
    go_enter Tryz.func73, Tryz.ntmps73
    go_wp2_with fail
    refine HV.out.mono ?_
    rintro e w2 ⟨rfl, hb⟩
    go_wp2
    go_ret
    exact ⟨rfl, hb⟩
  | false =>
    rw [hv] at HV
    rw [if_neg (by simp)]
    clear hv
    go_enter Tryz.func73, Tryz.ntmps73
    go_wp2_with fail
    refine HV.out.mono ?_
    rintro e w2 ⟨rfl, hb⟩
    go_wp2
    go_ret
    exact ⟨rfl, hb⟩
theorem progmul_x (x u : R3) (a c : Ad) (w : World) (hx : okx x = true) (hu : okx u = true) (h : Rds w (rows x a)) (h' : Rds w (rows u c)) :
    Calls Tryz.prog 72 #[.agg #[.bool x.p, .slice a.A x.l.length a.c, .slice a.D x.m.length a.d], .agg #[.bool u.p, .slice c.A u.l.length c.c, .slice c.D u.m.length c.d]] w (MadeQ w.heap.size (ofO (binQ mulQ (valx x) (valx u))) w) := by
  obtain ⟨r, h1, h2, h3⟩ := valx_yes hx
  obtain ⟨s, h4, h5, h6⟩ := valx_yes hu
  have k := times_r (some r) (some s) a c w (fitO_some h3) (fitO_some h6) (by rw [← h2]; exact h) (by rw [← h5]; exact h')
  rw [← h2, ← h5] at k
  rw [h1, h4]
  exact k
/-- The answer of the program's product. -/
def appA (R : List MR) (U : List RV) : List RV := if validB (sumL R U) = true then sumL R U else []
theorem sumL_ofO {R : List MR} {U M : List RV} (h : datQ M = datQ (sumL R U)) : ∀ q, q ∈ M → ∃ o, q.x = ofO o ∧ FitO o := fun q hq => by
  have hm : q.x ∈ datQ M := List.mem_map.2 ⟨q, hq, rfl⟩
  rw [h] at hm
  unfold datQ sumL at hm
  rw [List.map_map] at hm
  obtain ⟨p, _, e⟩ := List.mem_map.1 hm
  exact ⟨rowSum p U, e.symm, accX_fit zero_fitO _⟩
theorem sumL_length {R : List MR} {U M : List RV} (h : datQ M = datQ (sumL R U)) : M.length = R.length := by rw [datQ_len h]; unfold sumL; rw [List.length_map]
end Go.Proofs.YtennekieiioilaaGreat
