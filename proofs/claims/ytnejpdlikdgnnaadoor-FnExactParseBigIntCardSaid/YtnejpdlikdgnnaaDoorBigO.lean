/-
  'BigIntOk' of the model; the comparison of two equal big integers (what the door's texts need of BigS and LawBOk).
-/
import Derived.Test.YtnejpdlikdgnnaaDoorFrame
import Derived.Test.YtnejpdlikdgnnaaDoorBigP
namespace Go.Proofs.YtnejpdlikdgnnaaDoor
open Go.ChangeShapes Go.WideShapes Go.ChangeAt Go.RowKit
open Go.ChangeMaps (open_string shut_string)
set_option linter.unusedVariables false
set_option linter.unusedSimpArgs false
set_option maxRecDepth 4000

set_option maxHeartbeats 800000 in
theorem spec_bok (p : Bool) (l : List Int) (A : Option Addr) (n c : Nat) (w : World) (hl : l.length = n) (hn : n ≤ 9223372036854775807) (hA : RdS w A (vi l)) :
    Calls Tryd.prog 42 #[.agg #[.bool p, .slice A n c]] w fun e w' => e = .returned (.bool (okB p l)) ∧ Below w.heap.size w w' := by
  have H := Lib.hid (fun W h => spec_ok l A n c W hl hn h)
  by_cases hk : ok l = true
  · rw [hk] at H
    cases p
    · have HO : Hid (okB false l = true) := Lib.hid (by unfold okB; rw [hk]; rfl)
      clear hk hl
      go_enter Tryd.func42, Tryd.ntmps42
      go_wp2_with fail
      refine (H.out _ (hA.below (ba1 _ _))).mono ?_
      rintro e w1 ⟨rfl, rfl⟩
      go_wp2
      go_ret
      exact ⟨ret_bool' HO.out.symm, ba1 _ _⟩
    · by_cases h0 : 0 < n
      · have HO : Hid (okB true l = true) := Lib.hid (by unfold okB; rw [hk, decide_eq_false (by rintro rfl; simp at hl; omega)]; rfl)
        clear hk hl
        go_enter Tryd.func42, Tryd.ntmps42
        go_wp2_with fail
        refine (H.out _ (hA.below (ba1 _ _))).mono ?_
        rintro e w1 ⟨rfl, rfl⟩
        go_wp2
        go_ret
        exact ⟨ret_bool' HO.out.symm, ba1 _ _⟩
      · have HO : Hid (okB true l = false) := Lib.hid (by unfold okB; rw [hk, decide_eq_true (List.eq_nil_of_length_eq_zero (by omega))]; rfl)
        clear hk hl
        go_enter Tryd.func42, Tryd.ntmps42
        go_wp2_with fail
        refine (H.out _ (hA.below (ba1 _ _))).mono ?_
        rintro e w1 ⟨rfl, rfl⟩
        go_wp2
        go_ret
        exact ⟨ret_bool' HO.out.symm, ba1 _ _⟩
  · have hk' : ok l = false := by simpa using hk
    rw [hk'] at H
    rw [okB_no hk']
    clear hk hk' hl
    go_enter Tryd.func42, Tryd.ntmps42
    go_wp2_with fail
    refine (H.out _ (hA.below (ba1 _ _))).mono ?_
    rintro e w1 ⟨rfl, rfl⟩
    go_wp2
    go_ret
    exact ⟨rfl, ba1 _ _⟩
theorem boxTd (w : World) (T : TypeId) (x y : Value) : Two (w.alloc (.cells #[x, y] T)).drew w.heap.size := boxT w T x y
theorem lt_put2 {W : World} {g : Nat} {x u u' : Value} (h : W.cell? ⟨g, 0, none⟩ = some x) : g < ((W.setCell ⟨g, 0, none⟩ u).setCell ⟨g, 1, none⟩ u').heap.size := by
  have h1 := World.block_lt_of_cell? W _ h
  simpa [World.setCell] using h1
theorem eqBig_same (p : Bool) (l : List Int) (A D : Option Addr) (n c d : Nat) (w : World) (hl : l.length = n) (hn : n ≤ 4611686018427387904) (hA : RdS w A (vi l)) (hD : RdS w D (vi l)) :
    Calls Tryd.prog 18 #[.agg #[.bool p, .slice A n c], .agg #[.bool p, .slice D n d]] w fun e w' => e = .returned (.bool true) ∧ Below w.heap.size w w' :=
  (eqBig_any p p l l A D n n c d w hl hl hn hn hA hD).mono fun e w' ⟨he, hb⟩ => ⟨by rw [he]; simp, hb⟩

end Go.Proofs.YtnejpdlikdgnnaaDoor
