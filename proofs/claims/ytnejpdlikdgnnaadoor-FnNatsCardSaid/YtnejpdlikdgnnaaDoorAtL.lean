/-
  The harness' functions, hidden, at a list whose length stays closed.
-/
import Derived.Test.YtnejpdlikdgnnaaDoorIntH
namespace Go.Proofs.YtnejpdlikdgnnaaDoor
open Go.ChangeShapes Go.WideShapes Go.ChangeAt Go.RowKit
open Go.ChangeMaps (open_string shut_string)
set_option linter.unusedVariables false
set_option linter.unusedSimpArgs false
set_option maxRecDepth 4000

/-- The harness' functions at a list whose length stays closed. -/
theorem eq_at (L : List Int) (h : L.length ≤ 1048576) : Hid (∀ A D c d W, RdS W A (vi L) → RdS W D (vi L) → Calls Tryd.prog 47 #[.slice A L.length c, .slice D L.length d] W fun e w' => e = .returned (.bool true) ∧ Below W.heap.size W w') :=
  Lib.hid (fun A D c d W h1 h2 => eqIntS_same L A D _ c d W rfl (by omega) h1 h2)
theorem mark_at (L : List Int) (h : L.length ≤ 1048576) : Hid (∀ B A c W, OwnS B W A (vi L) → Calls Tryd.prog 50 #[.slice A L.length c, .int .i64 1] W fun e w' => e = .returned (.int .i64 (mk1 L.length)) ∧ OwnS B w' A (vi (marks 1 L.length)) ∧ W.grownBy w' (rowOf L.length A)) :=
  Lib.hid (fun B A c W h1 => markIntS_one B L A _ c W rfl h h1)
theorem held_at (n : Nat) (h : n ≤ 1048576) : Hid (∀ A c W, RdS W A (vi (marks 1 n)) → Calls Tryd.prog 51 #[.slice A n c, .int .i64 1] W fun e w' => e = .returned (.int .i64 (mk1 n)) ∧ Below W.heap.size W w') :=
  Lib.hid (fun A c W h1 => heldIntS_one A _ c W h h1)
theorem row_at {B : Nat} {W : World} {A : Option Addr} {L : List Int} (h : OwnS B W A (vi L)) : ∀ g, rowOf L.length A = some g → B ≤ g := by
  have := h.row
  rwa [vi_length] at this

end Go.Proofs.YtnejpdlikdgnnaaDoor
