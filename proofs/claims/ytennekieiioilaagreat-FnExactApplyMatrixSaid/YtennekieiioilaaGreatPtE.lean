/-
  A result of six cells; rows behind the store of a result.
-/
import Derived.Test.YtennekieiioilaaGreatR3
namespace Go.Proofs.YtennekieiioilaaGreat
open Go.ChangeShapes Go.WideShapes Go.ChangeAt Go.RowKit
open Go.ChangeMaps (open_string shut_string)
set_option linter.unusedVariables false
set_option linter.unusedSimpArgs false
set_option maxRecDepth 4000

/-- Block r holds six cells that may be written. -/
def Box6 (w : World) (r : Nat) : Prop := ∃ a b c d e f T, w.heap[r]? = some (.cells #[a, b, c, d, e, f] T (0, 0))
/-- Of what W0 holds only block r, of six cells, may have turned. -/
def Keep6 (W0 w : World) (r : Nat) : Prop := Box6 w r ∧ W0.grownBy w (some r)
theorem Keep6.start {W0 : World} {r : Nat} {a b c d e f : Value} {T : TypeId} (h : W0.heap[r]? = some (.cells #[a, b, c, d, e, f] T (0, 0))) : Keep6 W0 W0 r := ⟨⟨a, b, c, d, e, f, T, h⟩, grown_refl _ _⟩
theorem Keep6.drew {W0 w : World} {r : Nat} (h : Keep6 W0 w r) : Keep6 W0 w.drew r := ⟨h.1, ⟨h.2.os, h.2.tape, h.2.output, h.2.size, h.2.block⟩⟩
theorem Keep6.below {W0 w w' : World} {r : Nat} (h : Keep6 W0 w r) (hb : Below w.heap.size w w') : Keep6 W0 w' r := by
  obtain ⟨⟨a, b, c, d, e, f, T, k⟩, g⟩ := h
  exact ⟨⟨a, b, c, d, e, f, T, rblk_below k hb⟩, grown_below g hb⟩
theorem Keep6.put6 {W0 w : World} {r : Nat} (h : Keep6 W0 w r) (u0 u1 u2 u3 u4 u5 : Value) : Keep6 W0 ((((((w.setCell ⟨r, 0, none⟩ u0).setCell ⟨r, 1, none⟩ u1).setCell ⟨r, 2, none⟩ u2).setCell ⟨r, 3, none⟩ u3).setCell ⟨r, 4, none⟩ u4).setCell ⟨r, 5, none⟩ u5) r := by
  obtain ⟨⟨a, b, c, d, e, f, T, k⟩, g⟩ := h
  exact ⟨⟨u0, u1, u2, u3, u4, u5, T, rblk_set (rblk_set (rblk_set (rblk_set (rblk_set (rblk_set k 0 u0) 1 u1) 2 u2) 3 u3) 4 u4) 5 u5⟩, grown_setCell (grown_setCell (grown_setCell (grown_setCell (grown_setCell (grown_setCell g 0 u0) 1 u1) 2 u2) 3 u3) 4 u4) 5 u5⟩
theorem Keep6.block {W0 w : World} {r g : Nat} {o : Obj} (h : Keep6 W0 w r) (P : W0.heap[g]? = some o) (hne : r ≠ g) : w.heap[g]? = some o :=
  (h.2.block g (rblk_lt P) (fun e => hne (by injection e with e; exact e.symm))).trans P
theorem Keep6.base {w0 W0 w : World} {r : Nat} (h : Keep6 W0 w r) (kb : Below w0.heap.size w0 W0) (hr : w0.heap.size ≤ r) : Below w0.heap.size w0 w :=
  kb.trans (below_of_grown h.2 kb.size (fun g e => by injection e with e; omega))
theorem Keep6.lt {W0 w : World} {r : Nat} (h : Keep6 W0 w r) : r < w.heap.size := by
  obtain ⟨⟨a, b, c, d, e, f, T, k⟩, _⟩ := h
  exact rblk_lt k
theorem Keep6.size {W0 w : World} {r : Nat} (h : Keep6 W0 w r) : W0.heap.size ≤ w.heap.size := h.2.size
theorem Keep6.cells {W0 w : World} {r : Nat} (h : Keep6 W0 w r) : ∃ u0 u1 u2 u3 u4 u5, w.cell? ⟨r, 0, none⟩ = some u0 ∧ w.cell? ⟨r, 1, none⟩ = some u1 ∧ w.cell? ⟨r, 2, none⟩ = some u2 ∧ w.cell? ⟨r, 3, none⟩ = some u3 ∧ w.cell? ⟨r, 4, none⟩ = some u4 ∧ w.cell? ⟨r, 5, none⟩ = some u5 ∧ w.frozen? ⟨r, 0, none⟩ = false ∧ w.frozen? ⟨r, 1, none⟩ = false ∧ w.frozen? ⟨r, 2, none⟩ = false ∧ w.frozen? ⟨r, 3, none⟩ = false ∧ w.frozen? ⟨r, 4, none⟩ = false ∧ w.frozen? ⟨r, 5, none⟩ = false := by
  obtain ⟨⟨a, b, c, d, e, f, T, k⟩, _⟩ := h
  exact ⟨a, b, c, d, e, f, rblk_cell k 0, rblk_cell k 1, rblk_cell k 2, rblk_cell k 3, rblk_cell k 4, rblk_cell k 5, rblk_free k 0, rblk_free k 1, rblk_free k 2, rblk_free k 3, rblk_free k 4, rblk_free k 5⟩
theorem owns_put3 {lo hi r : Nat} {w : World} {rs : List (Option Addr × List Value)} (h : Owns lo hi w rs) (hr : r < lo ∨ hi ≤ r) (u0 u1 u2 : Value) : Owns lo hi (((w.setCell ⟨r, 0, none⟩ u0).setCell ⟨r, 1, none⟩ u1).setCell ⟨r, 2, none⟩ u2) rs :=
  ((h.put hr u0).put hr u1).put hr u2
theorem owns_put6 {lo hi r : Nat} {w : World} {rs : List (Option Addr × List Value)} (h : Owns lo hi w rs) (hr : r < lo ∨ hi ≤ r) (u0 u1 u2 u3 u4 u5 : Value) : Owns lo hi ((((((w.setCell ⟨r, 0, none⟩ u0).setCell ⟨r, 1, none⟩ u1).setCell ⟨r, 2, none⟩ u2).setCell ⟨r, 3, none⟩ u3).setCell ⟨r, 4, none⟩ u4).setCell ⟨r, 5, none⟩ u5) rs :=
  (((((h.put hr u0).put hr u1).put hr u2).put hr u3).put hr u4).put hr u5
theorem below_put6 {B r : Nat} {w w1 : World} (h : Below B w w1) (hr : B ≤ r) (u0 u1 u2 u3 u4 u5 : Value) : Below B w ((((((w1.setCell ⟨r, 0, none⟩ u0).setCell ⟨r, 1, none⟩ u1).setCell ⟨r, 2, none⟩ u2).setCell ⟨r, 3, none⟩ u3).setCell ⟨r, 4, none⟩ u4).setCell ⟨r, 5, none⟩ u5) := below_put (below_put (below_put (below_put (below_put (below_put h hr u0) hr u1) hr u2) hr u3) hr u4) hr u5
theorem size_put6 (w : World) (r : Nat) (u0 u1 u2 u3 u4 u5 : Value) : ((((((w.setCell ⟨r, 0, none⟩ u0).setCell ⟨r, 1, none⟩ u1).setCell ⟨r, 2, none⟩ u2).setCell ⟨r, 3, none⟩ u3).setCell ⟨r, 4, none⟩ u4).setCell ⟨r, 5, none⟩ u5).heap.size = w.heap.size := by simp only [put_size]
theorem size_put3 (w : World) (r : Nat) (u0 u1 u2 : Value) : (((w.setCell ⟨r, 0, none⟩ u0).setCell ⟨r, 1, none⟩ u1).setCell ⟨r, 2, none⟩ u2).heap.size = w.heap.size := by simp only [put_size]
/-- A point's rows behind the store of the result. -/
theorem owns_end6 {lo hi B r : Nat} {w : World} {rs : List (Option Addr × List Value)} (h : Owns lo hi w rs) (hr : r < lo ∨ hi ≤ r) (hB : B ≤ lo) (hh : hi ≤ w.heap.size) (u0 u1 u2 u3 u4 u5 : Value) : Owns B ((((((w.setCell ⟨r, 0, none⟩ u0).setCell ⟨r, 1, none⟩ u1).setCell ⟨r, 2, none⟩ u2).setCell ⟨r, 3, none⟩ u3).setCell ⟨r, 4, none⟩ u4).setCell ⟨r, 5, none⟩ u5).heap.size ((((((w.setCell ⟨r, 0, none⟩ u0).setCell ⟨r, 1, none⟩ u1).setCell ⟨r, 2, none⟩ u2).setCell ⟨r, 3, none⟩ u3).setCell ⟨r, 4, none⟩ u4).setCell ⟨r, 5, none⟩ u5) rs :=
  (owns_put6 h hr u0 u1 u2 u3 u4 u5).wide hB (by rw [size_put6]; exact hh)
theorem owns_end3 {lo hi B r : Nat} {w : World} {rs : List (Option Addr × List Value)} (h : Owns lo hi w rs) (hr : r < lo ∨ hi ≤ r) (hB : B ≤ lo) (hh : hi ≤ w.heap.size) (u0 u1 u2 : Value) : Owns B (((w.setCell ⟨r, 0, none⟩ u0).setCell ⟨r, 1, none⟩ u1).setCell ⟨r, 2, none⟩ u2).heap.size (((w.setCell ⟨r, 0, none⟩ u0).setCell ⟨r, 1, none⟩ u1).setCell ⟨r, 2, none⟩ u2) rs :=
  (owns_put3 h hr u0 u1 u2).wide hB (by rw [size_put3]; exact hh)
theorem noRows (lo hi : Nat) (w : World) (a b : Ad) : Owns lo hi w (rows noR a ++ rows noR b) := fun r hr => by
  have : r.2 = [] := by
    simp only [rows, noR, List.cons_append, List.nil_append, List.mem_cons, List.not_mem_nil, or_false] at hr
    rcases hr with rfl | rfl | rfl | rfl <;> rfl
  exact ⟨.inl this, fun g hg => by rw [this] at hg; simp [rowOf] at hg⟩
theorem noApart (a b : Ad) : Aparts (rows noR a ++ rows noR b) := by
  have H : ∀ (A D : Option Addr) (m : Nat), Apart (vi ([] : List Int)).length A m D := fun A D m g hg => by simp [vi, rowOf] at hg
  unfold Aparts rows noR
  simp only [List.cons_append, List.nil_append, List.pairwise_cons, List.mem_cons, List.not_mem_nil, or_false]
  exact ⟨fun s _ => H _ _ _, fun s _ => H _ _ _, fun s _ => H _ _ _, fun s hs => absurd hs (by simp), List.Pairwise.nil⟩
end Go.Proofs.YtennekieiioilaaGreat
