/-
  Binary search among a row's columns; indices.
-/
import Derived.Test.YtennekieiioilaaGreatShelf
import Derived.Test.YtennekieiioilaaGreatIsI
import Derived.Test.YtennekieiioilaaGreatEntW
namespace Go.Proofs.YtennekieiioilaaGreat
open Go.ChangeShapes Go.WideShapes Go.ChangeAt Go.RowKit
open Go.ChangeMaps (open_string shut_string)
set_option linter.unusedVariables false
set_option linter.unusedSimpArgs false
set_option maxRecDepth 4000

theorem isIdx_r (i : Int) (n : Nat) (w : World) : Calls Tryz.prog 30 #[.int .i64 i, .int .i64 (n : Int)] w (fun e w' => e = .returned (.bool (inX i n)) ∧ Below w.heap.size w w') := by
  by_cases h0 : 0 ≤ i <;> by_cases h1 : i < (n : Int)
  · have e : inX i n = true := by unfold inX; simp; omega
    rw [e]
    go_enter Tryz.func30, Tryz.ntmps30
    go_wp2
    go_ret
    exact ⟨by simp [h0, h1], Below.refl _ _⟩
  all_goals
    have e : inX i n = false := by unfold inX; simp; omega
    rw [e]
    go_enter Tryz.func30, Tryz.ntmps30
    go_wp2
    go_ret
    exact ⟨by simp [h0, h1], Below.refl _ _⟩
/-- The columns of a row of a valid matrix ascend, and there are no more of them than rows. -/
theorem lst_ge {n : Nat} {p : MR} (k : Nat) (hk : k ≤ p.cs.length) (h : (List.range p.cs.length).all (okI n p) = true) : (k : Int) ≤ lst p k := by
  induction k with
  | zero => unfold lst; simp
  | succ k ih =>
    have h1 := ih (by omega)
    have hz : p.cs[k]? = some (p.cs[k]'(by omega)) := List.getElem?_eq_getElem _
    rw [← lst_succ hz]
    have h2 := rng_at h (show k < p.cs.length by omega)
    have hl : lst p k ≤ p.cs[k]'(by omega) := by
      have h3 : okI n p k = true := h2
      unfold okI elB at h3
      rw [hz] at h3
      simp only [Bool.and_eq_true, decide_eq_true_eq, Bool.or_eq_true, beq_iff_eq, Option.getD_some] at h3
      unfold lst
      split
      · omega
      · rcases h3.1.2.1 with h4 | h4
        · omega
        · omega
    omega
theorem row_inc {n : Nat} {p : MR} (h : rowB n p = true) : p.cs.Pairwise (· < ·) ∧ p.cs.length ≤ n ∧ p.cs.length = p.V.length ∧ validB p.V = true := by
  have h0 : p.cs.length = p.V.length ∧ validB p.V = true := by
    unfold rowB at h; simp only [Bool.and_eq_true, decide_eq_true_eq] at h; exact ⟨h.1, h.2.1⟩
  have h1 := h
  rw [rowB_I n p h0.1] at h1
  refine ⟨?_, ?_, h0⟩
  · rw [List.pairwise_iff_getElem]
    intro i j hi hj hij
    have hstep : ∀ k (hk : k + 1 < p.cs.length), p.cs[k]'(by omega) < p.cs[k + 1] := fun k hk => by
      have h3 := rng_at h1 hk
      unfold okI elB at h3
      rw [List.getElem?_eq_getElem hk, Nat.add_sub_cancel, List.getElem?_eq_getElem (show k < p.cs.length by omega)] at h3
      simp only [Bool.and_eq_true, decide_eq_true_eq, Bool.or_eq_true, beq_iff_eq, Option.getD_some] at h3
      rcases h3.1.2.1 with h4 | h4
      · omega
      · exact h4
    have hall : ∀ j (hj : j < p.cs.length), i < j → p.cs[i]'(by omega) < p.cs[j] := fun j => by
      induction j with
      | zero => intro _ h; omega
      | succ j ih =>
        intro hj hij
        have h6 := hstep j hj
        rcases Nat.lt_or_ge i j with h5 | h5
        · have h7 := ih (by omega) h5
          exact Int.lt_trans h7 h6
        · obtain rfl : i = j := by omega
          exact h6
    exact hall j hj hij
  · rcases Nat.eq_zero_or_pos p.cs.length with h2 | h2
    · omega
    · have h3 := lst_ge p.cs.length (Nat.le_refl _) h1
      have h4 := (okI_el (rng_at h1 (show p.cs.length - 1 < p.cs.length by omega))).2
      unfold lst at h3
      rw [if_neg (by omega)] at h3
      omega
theorem entL_bs (cs : List Int) (xs : List R3) (y : Int) (hl : cs.length = xs.length) (hs : cs.Pairwise (· < ·)) :
    (cs.contains y = true → ∃ x, cs[cs.countP (· < y)]? = some y ∧ xs[cs.countP (· < y)]? = some x ∧ entL cs xs y = valx x) ∧ (cs.contains y = false → entL cs xs y = some 0) := by
  induction cs generalizing xs with
  | nil => exact ⟨fun h => by simp at h, fun _ => by cases xs <;> rfl⟩
  | cons c cs ih =>
    match xs, hl with
    | x :: xs, hl =>
      rw [List.pairwise_cons] at hs
      have h := ih xs (by simpa using hl) hs.2
      by_cases hc : c = y
      · have hz : (c :: cs).countP (· < y) = 0 := by
          rw [List.countP_eq_zero]
          intro a ha
          rcases List.mem_cons.1 ha with e | e
          · simp; omega
          · have := hs.1 a e; simp; omega
        refine ⟨fun _ => ⟨x, by rw [hz, hc]; rfl, by rw [hz]; rfl, ?_⟩, fun k => ?_⟩
        · show (if c = y then valx x else entL cs xs y) = _
          rw [if_pos hc]
        · rw [hc] at k; simp at k
      · have e1 : (c :: cs).contains y = cs.contains y := by
          rw [List.contains_cons]
          have : (y == c) = false := by simp; omega
          rw [this, Bool.false_or]
        have e2 : entL (c :: cs) (x :: xs) y = entL cs xs y := by
          show (if c = y then valx x else entL cs xs y) = _
          rw [if_neg hc]
        rw [e1, e2]
        refine ⟨fun k => ?_, h.2⟩
        have hm : y ∈ cs := by simpa using k
        have hlt := hs.1 y hm
        have e3 : (c :: cs).countP (· < y) = cs.countP (· < y) + 1 := by rw [List.countP_cons_of_pos (by simpa using hlt)]
        obtain ⟨x', h1, h2, h3⟩ := h.1 k
        exact ⟨x', by rw [e3]; exact h1, by rw [e3]; exact h2, h3⟩
theorem bs_r (cs : List Int) (A : Option Addr) (c : Nat) (y : Int) (w : World) (hn : cs.length ≤ 1048576) (hs : cs.Pairwise (· < ·)) (h : RdS w A (vi cs)) :
    Calls Tryz.prog 58 #[.slice A cs.length c, .int .i64 y] w (fun e w' => e = .returned (.tuple #[.int .i64 ((cs.countP (· < y) : Nat) : Int), .bool (cs.contains y)]) ∧ Below w.heap.size w w') := by
  rcases Nat.eq_zero_or_pos cs.length with h0 | h0
  · obtain rfl : cs = [] := List.eq_nil_of_length_eq_zero h0
    exact (Tryz.slices_BinarySearch_int_empty A c y w).mono fun e w' h => ⟨h.1, by rw [h.2]; exact Below.refl _ _⟩
  · obtain ⟨g, o, rfl, hg, hc⟩ := h.block (by rw [vi_length]; omega)
    have K := Tryz.slices_BinarySearch_int g o cs.length c cs y w (Nat.le_refl _) (by omega) (fun j hj => by
      rw [hc j (by rw [vi_length]; exact hj)]
      unfold vi
      rw [List.getElem?_map, List.getElem?_eq_getElem hj, List.getD_eq_getElem?_getD, List.getElem?_eq_getElem hj]; rfl) (by rw [List.take_length]; exact hs.imp (fun h => by omega))
    rw [List.take_length] at K
    refine K.mono fun e w' h => ⟨h.1, ?_⟩
    obtain ⟨q, e⟩ := h.2
    rw [e]
    exact below_drewN (Below.refl _ _) q
end Go.Proofs.YtennekieiioilaaGreat
