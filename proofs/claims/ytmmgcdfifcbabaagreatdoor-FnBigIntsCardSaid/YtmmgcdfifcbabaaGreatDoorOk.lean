/-
  'NatOk', of the model and of the program: both say whether the limbs are a natural number's.
-/
import Derived.Test.YtmmgcdfifcbabaaGreatDoorIntH
import Derived.WalkSmall
namespace Go.Proofs.YtmmgcdfifcbabaaGreatDoor
open Go.ChangeShapes Go.WideShapes Go.ChangeAt Go.RowKit
open Go.ChangeMaps (open_string shut_string)
set_option linter.unusedVariables false
set_option linter.unusedSimpArgs false
set_option maxRecDepth 4000

/-- The first k elements are digits. -/
def DigTI (l : List Int) (k : Nat) : Prop := ∀ j x, j < k → l[j]? = some x → 0 ≤ x ∧ x < 1000000000
theorem DigTI.zero (l : List Int) : DigTI l 0 := fun _ _ h => absurd h (by omega)
theorem DigTI.succ {l : List Int} {k : Nat} {x : Int} (h : DigTI l k) (hx : l[k]? = some x) (h0 : 0 ≤ x) (h1 : x < 1000000000) : DigTI l (k + 1) := fun j y hj hy => by
  rcases Nat.lt_or_ge j k with h2 | h2
  · exact h j y h2 hy
  · obtain rfl : j = k := by omega
    rw [hx] at hy
    injection hy with hy
    omega
theorem ok_false_of {l : List Int} {k : Nat} {x : Int} (hx : l[k]? = some x) (h : ¬ (0 ≤ x ∧ x < 1000000000)) : ok l = false := by
  rw [← Bool.not_eq_true]
  intro e
  unfold ok at e
  simp only [Bool.and_eq_true, Bool.or_eq_true, decide_eq_true_eq, List.all_eq_true] at e
  exact h (e.1.2 x (List.mem_of_getElem? hx))
theorem ok_false_long {l : List Int} (h : 60 < l.length) : ok l = false := by
  rw [← Bool.not_eq_true]
  intro e
  unfold ok at e
  simp only [Bool.and_eq_true, Bool.or_eq_true, decide_eq_true_eq, List.all_eq_true] at e
  omega
theorem ok_nil : ok [] = true := rfl
theorem ok_end {l : List Int} {x : Int} (hl : l.length ≤ 60) (hd : DigTI l l.length) (hx : l[l.length - 1]? = some x) : ok l = decide (x ≠ 0) := by
  have hne : l ≠ [] := by rintro rfl; simp at hx
  have ha : (l.all fun x => decide (0 ≤ x) && decide (x < 1000000000)) = true := by
    rw [List.all_eq_true]
    intro y hy
    obtain ⟨j, hj, hjy⟩ := List.getElem_of_mem hy
    have := hd j y hj (by rw [List.getElem?_eq_getElem hj, hjy])
    simpa using this
  unfold ok
  rw [ha, decide_eq_true hl, decide_eq_false hne, List.getD_eq_getElem?_getD, hx]
  simp

set_option maxHeartbeats 800000 in
theorem impl_ok (l : List Int) (A : Option Addr) (n c : Nat) (w : World) (hl : l.length = n) (hn : n ≤ 9223372036854775807) (hA : RdS w A (vi l)) :
    Calls Tryz.prog 36 #[.slice A n c] w fun e w' => e = .returned (.bool (ok l)) ∧ w = w' := by
  have HL := Lib.hid hl
  clear hl
  by_cases hlong : 60 < n
  · have Hf : Hid (ok l = false) := Lib.hid (ok_false_long (by rw [HL.out]; exact hlong))
    go_enter Tryz.func36, Tryz.ntmps36
    go_wp2
    go_ret
    exact ⟨ret_bool' Hf.out.symm, rfl⟩
  · have hn60 : n ≤ 60 := by omega
    go_enter Tryz.func36, Tryz.ntmps36
    go_wp2
    go_loop [10] (fun i => ∃ k : Nat, k ≤ n ∧ i = .int .i64 k ∧ DigTI l k) (fun i => n - (intOf i).toNat)
    case atStart => exact ⟨0, Nat.zero_le _, rfl, DigTI.zero _⟩
    case round =>
      obtain ⟨k, hk, rfl, hdt0⟩ := hrel
      have hdt := Lib.hid hdt0
      clear hdt0
      by_cases hlt : k < n
      · have hs0 : l[k]? = some (l[k]'(by rw [HL.out]; exact hlt)) := List.getElem?_eq_getElem _
        obtain ⟨b1, o1, rfl, hb1, e1⟩ := hA.int hs0
        have hi0 : (0 : Int) ≤ (k : Int) := by omega
        have hi1 : (k : Int) < (n : Int) := by omega
        generalize l[k]'(by rw [HL.out]; exact hlt) = x at e1 hs0
        have Hs := Lib.hid hs0
        clear hs0
        by_cases h0 : x < 0
        · have Hf : Hid (ok l = false) := Lib.hid (ok_false_of Hs.out (by omega))
          go_wp2
          go_ret
          exact ⟨ret_bool' Hf.out.symm, rfl⟩
        · have h0' : 0 ≤ x := by omega
          by_cases h1 : x < 1000000000
          · go_wp2
            go_round
            case rel => exact ⟨k + 1, by omega, by go_num, hdt.out.succ Hs.out h0' h1⟩
            case measure => simp [intOf]; omega
          · have Hf : Hid (ok l = false) := Lib.hid (ok_false_of Hs.out (by omega))
            have h1' : 1000000000 ≤ x := by omega
            go_wp2
            go_ret
            exact ⟨ret_bool' Hf.out.symm, rfl⟩
      · obtain rfl : k = n := by omega
        by_cases hz : k = 0
        · subst hz
          have Hf : Hid (ok l = true) := Lib.hid (by rw [List.eq_nil_of_length_eq_zero HL.out]; rfl)
          go_wp2
          go_ret
          exact ⟨ret_bool' Hf.out.symm, rfl⟩
        · have hs0 : l[k - 1]? = some (l[k - 1]'(by rw [HL.out]; omega)) := List.getElem?_eq_getElem _
          obtain ⟨b1, o1, rfl, hb1, e1⟩ := hA.int hs0
          generalize l[k - 1]'(by rw [HL.out]; omega) = x at e1 hs0
          have Hf : Hid (ok l = decide (x ≠ 0)) := Lib.hid (ok_end (by rw [HL.out]; omega) (by rw [HL.out]; exact hdt.out) (by rw [HL.out]; exact hs0))
          clear hs0
          have hk1 : ((k : Int) - 1) = ((k - 1 : Nat) : Int) := by omega
          have hp : 0 < k := by omega
          have hkz : ((k : Int) == 0) = false := by rw [beq_eq_false_iff_ne]; omega
          by_cases hx : x = 0
          · subst hx
            go_wp2
            go_ret
            exact ⟨ret_bool' (by rw [Hf.out]; rfl), rfl⟩
          · go_wp2
            go_ret
            exact ⟨ret_bool' (by rw [Hf.out]; simp [hx]), rfl⟩

theorem are_any (l m : List Int) (A D : Option Addr) (n c n' d : Nat) (w : World) (hl : l.length = n) (hm : m.length = n') (hn : n ≤ 9223372036854775807) (hn' : n' ≤ 9223372036854775807) (hA : RdS w A (vi l)) (hD : RdS w D (vi m)) :
    Calls Tryz.prog 74 #[.slice A n c, .slice D n' d] w fun e w' => e = .returned (.bool (ok l && ok m)) ∧ w = w' := by
  have H1 := Lib.hid (impl_ok l A n c w hl hn hA)
  have H2 := Lib.hid (impl_ok m D n' d w hm hn' hD)
  clear hl hm
  generalize ok l = p at H1
  generalize ok m = q at H2
  cases p
  · go_enter Tryz.func74, Tryz.ntmps74
    go_wp2_with fail
    refine H1.out.mono ?_
    rintro e w1 ⟨rfl, rfl⟩
    go_wp2
    go_ret
    exact ⟨rfl, rfl⟩
  · go_enter Tryz.func74, Tryz.ntmps74
    go_wp2_with fail
    refine H1.out.mono ?_
    rintro e w1 ⟨rfl, rfl⟩
    go_wp2_with fail
    refine H2.out.mono ?_
    rintro e w1 ⟨rfl, rfl⟩
    go_wp2
    go_ret
    exact ⟨rfl, rfl⟩
end Go.Proofs.YtmmgcdfifcbabaaGreatDoor
