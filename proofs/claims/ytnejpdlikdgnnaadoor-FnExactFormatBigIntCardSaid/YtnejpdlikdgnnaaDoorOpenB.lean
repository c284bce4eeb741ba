/-
  A big integer that came in, read as a sign and a list.
-/
import Derived.Test.YtnejpdlikdgnnaaDoorOpenI
import Derived.Lib.SmallJoins
namespace Go.Proofs.YtnejpdlikdgnnaaDoor
open Go.ChangeShapes Go.WideShapes Go.ChangeAt Go.RowKit Go.Joins
open Go.ChangeMaps (open_string shut_string)
set_option linter.unusedVariables false
set_option linter.unusedSimpArgs false
set_option maxRecDepth 10000

/-- A cell that holds a slice of ints, read. -/
theorem openedC {H : Type} {enc : TypeId × Value → H} {W : World} {fuel : Nat} {v : Value} {x : DataW H × List MemPlace}
    (hf : DataW.trod enc Tryd.prog W 0 (fun _ => true) true fuel 23 [v] = some x) :
    ∃ (A : Option Addr) (n c : Nat) (l : List Int), v = .slice A n c ∧ l.length = n ∧ n ≤ 9223372036854775807 ∧ RdS W A (vi l) := by
  have hv : ∃ A n c, v = .slice A n c := by
    rcases open_ints Tryd.underlying23 Tryd.underlying3 cellsInt hf with ⟨hcs, hx⟩ | ⟨a, len', cap', zs, hcs, _⟩
    · injection hcs with h1 _; exact ⟨_, _, _, h1⟩
    · injection hcs with h1 _; exact ⟨_, _, _, h1⟩
  obtain ⟨A, n, c, rfl⟩ := hv
  obtain ⟨d, p⟩ := x
  obtain ⟨l, h1, h2, h3⟩ := opened (a0 := A) (len := n) (cap := c) (d := d) (p := p) (by simpa [Value.cells] using hf)
  exact ⟨A, n, c, l, rfl, h1, h2, h3⟩
theorem cellsBig : Tryd.prog.cellsOf 34 = 2 := by kernel_rfl
/-- A struct of a sign and a slice of ints, read. -/
theorem openB {H : Type} {enc : TypeId × Value → H} {W : World} {base : Nat} {v : Value} {d : DataW H} {p : List MemPlace}
    (hv : Value.okWide Tryd.prog W .any base 34 v) (h : DataW.Trod enc Tryd.prog W 0 (fun _ => true) true 34 v d p) :
    ∃ (s : Bool) (A : Option Addr) (n c : Nat) (l : List Int), v = .agg #[.bool s, .slice A n c] ∧ l.length = n ∧ n ≤ 9223372036854775807 ∧ RdS W A (vi l) := by
  obtain ⟨c0, c1, y0, y1, m, rfl, _, _, hy0, hy1⟩ := open_agg2 Tryd.underlying34 (by kernel_rfl) cellsBig hv h
  obtain ⟨b, e0, _⟩ := DataW.trod_bool Tryd.underlying4 hy0
  injection e0 with e0 _
  subst e0
  obtain ⟨A, n, c, l, rfl, h1, h2, h3⟩ := openedC hy1
  exact ⟨b, A, n, c, l, rfl, h1, h2, h3⟩
end Go.Proofs.YtnejpdlikdgnnaaDoor
