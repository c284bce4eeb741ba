/-
  Words of appends: blocks that hold no row.
-/
import Derived.Test.YtppdholccpgcpaaGreatSlH
import Derived.Maps.AppendAt
namespace Go.Proofs.YtppdholccpgcpaaGreat
open Go.ChangeShapes Go.WideShapes Go.ChangeAt Go.RowKit
open Go.ChangeMaps (open_string shut_string)
set_option linter.unusedVariables false
set_option linter.unusedSimpArgs false
set_option maxRecDepth 4000

/-- None of the rows lies in block g. -/
def OffG (g : Nat) (rs : List (Option Addr × List Value)) : Prop := ∀ r, r ∈ rs → rowOf r.2.length r.1 ≠ some g
theorem offG_owns {lo hi g : Nat} {w : World} {rs : List (Option Addr × List Value)} (h : Owns lo hi w rs) (hg : g < lo) : OffG g rs := fun r hr e => by
  have := (h r hr).2 g e
  omega
theorem ownS_grown {B : Nat} {w w' : World} {A : Option Addr} {l : List Value} {ob : Option Nat} (h : OwnS B w A l) (hg : w.grownBy w' ob) (ho : ∀ g, ob = some g → rowOf l.length A ≠ some g) : OwnS B w' A l := by
  rcases h with h0 | ⟨g, ha, hB, hs, hc, hf⟩
  · exact .inl h0
  · by_cases h0 : l.length = 0
    · exact .inl (List.eq_nil_of_length_eq_zero h0)
    have hne : some g ≠ ob := fun e => ho g e.symm (by unfold rowOf; rw [if_neg h0, ha]; rfl)
    have hk : w'.heap[g]? = w.heap[g]? := hg.block g hs hne
    refine .inr ⟨g, ha, hB, Nat.lt_of_lt_of_le hs hg.size, fun j hj => ?_, fun j hj => ?_⟩
    · rw [World.cell?_of_block (w := w) (a := ⟨g, j, none⟩) hk]; exact hc j hj
    · rw [World.frozen?_of_block (w := w) (a := ⟨g, j, none⟩) hk]; exact hf j hj
theorem owns_grown {lo hi : Nat} {w w' : World} {rs : List (Option Addr × List Value)} {ob : Option Nat} (h : Owns lo hi w rs) (hg : w.grownBy w' ob) (ho : ∀ g, ob = some g → OffG g rs) : Owns lo hi w' rs := fun r hr =>
  ⟨ownS_grown (h r hr).1 hg (fun g e => ho g e r hr), (h r hr).2⟩
end Go.Proofs.YtppdholccpgcpaaGreat

