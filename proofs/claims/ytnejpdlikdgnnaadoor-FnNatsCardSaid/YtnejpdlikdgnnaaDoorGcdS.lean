/-
  The model's own greatest common divisor.
-/
import Derived.Test.YtnejpdlikdgnnaaDoorDivT
import Derived.Test.YtnejpdlikdgnnaaDoorToInt
namespace Go.Proofs.YtnejpdlikdgnnaaDoor
open Go.ChangeShapes Go.WideShapes Go.ChangeAt Go.RowKit
open Go.ChangeMaps (open_string shut_string)
set_option linter.unusedVariables false
set_option linter.unusedSimpArgs false
set_option maxRecDepth 4000

theorem toV_small {a : Nat} (h : ln a ≤ 2) : toV (nd a) = a ∧ a < 1000000000000000000 := by
  have h1 := lt_pn h
  have h2 : pn 2 = 1000000000000000000 := by decide
  exact ⟨(toV_yes (by omega) (by omega)).1, by omega⟩

/-- The number that a slice of limbs reads as: what a loop counts down. -/
def numAt : Value → World → Nat
  | .slice (some ad) n _, w => val ((List.range n).map (fun j => match w.cell? ⟨ad.block, ad.off + j, none⟩ with | some (.int _ x) => x | _ => 0))
  | _, _ => 0
theorem numAt_eq {w : World} {A : Option Addr} {Y c : Nat} (h : RdS w A (vi (nd Y))) : numAt (.slice A (nd Y).length c) w = Y := by
  by_cases h0 : (nd Y).length = 0
  · have hY : Y = 0 := by rw [nd_length] at h0; exact ln_eq_zero.1 h0
    rw [h0, hY]
    cases A <;> rfl
  · obtain ⟨b, off, rfl, _, hc⟩ := h.block (by rw [vi_length]; omega)
    have e : (List.range (nd Y).length).map (fun j => match w.cell? ⟨b, off + j, none⟩ with | some (.int _ x) => x | _ => 0) = nd Y := by
      apply List.ext_getElem?
      intro j
      rcases Nat.lt_or_ge j (nd Y).length with h1 | h1
      · have h2 := hc j (by rw [vi_length]; exact h1)
        rw [vi_get h1] at h2
        rw [List.getElem?_map, List.getElem?_range h1, List.getElem?_eq_getElem h1]
        simp [h2]
      · rw [List.getElem?_eq_none (by simpa using h1), List.getElem?_eq_none h1]
    show val _ = Y
    rw [e, val_nd]

/-- A slice of the call's own, whatever its capacity. -/
def MadeN (B : Nat) (L : List Int) (w : World) (e : Ending) (w' : World) : Prop :=
  ∃ A c, e = .returned (.slice A L.length c) ∧ OwnS B w' A (vi L) ∧ Below w.heap.size w w'

end Go.Proofs.YtnejpdlikdgnnaaDoor
