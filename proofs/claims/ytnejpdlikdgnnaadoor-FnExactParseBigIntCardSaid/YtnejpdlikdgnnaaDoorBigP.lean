/-
  Big integers of the program: 'plus', 'times', 'order'.
-/
import Derived.Test.YtnejpdlikdgnnaaDoorBigM
import Derived.Deep.RegionHeld3
import Derived.Deep.DeepCutAuto
namespace Go.Proofs.YtnejpdlikdgnnaaDoor
open Go.ChangeShapes Go.WideShapes Go.ChangeAt Go.RowKit
open Go.ChangeMaps (open_string shut_string)
set_option linter.unusedVariables false
set_option linter.unusedSimpArgs false
set_option maxRecDepth 4000

theorem cell_kept {W W' : World} {b o : Nat} {v : Value} (h : W.cell? ⟨b, o, none⟩ = some v) (hb : Below W.heap.size W W') : W'.cell? ⟨b, o, none⟩ = some v := by
  rw [hb.cell (p := ⟨b, o, none⟩) (World.block_lt_of_cell? W _ h)]; exact h
theorem Two.below {W W' : World} {g : Nat} (h : Two W g) (hb : Below W.heap.size W W') : Two W' g := by
  obtain ⟨u, v, h1, h2, h3, h4⟩ := h
  have hl := World.block_lt_of_cell? W _ h1
  exact ⟨u, v, cell_kept h1 hb, cell_kept h2 hb, by rw [hb.frozen (p := ⟨g, 0, none⟩) hl]; exact h3, by rw [hb.frozen (p := ⟨g, 1, none⟩) hl]; exact h4⟩
theorem cell_put {W : World} {b o g k : Nat} {v u : Value} (h : W.cell? ⟨b, o, none⟩ = some v) (hne : g ≠ b) : (W.setCell ⟨g, k, none⟩ u).cell? ⟨b, o, none⟩ = some v := by
  rw [World.cell?_setCell_other W ⟨g, k, none⟩ ⟨b, o, none⟩ u (by intro q; injection q with q1 _; exact hne q1)]; exact h
theorem Two.put {W : World} {g k : Nat} {u : Value} (h : Two W g) : Two (W.setCell ⟨g, k, none⟩ u) g := by
  obtain ⟨x, y, h1, h2, h3, h4⟩ := h
  have h1' : ∃ x', (W.setCell ⟨g, k, none⟩ u).cell? ⟨g, 0, none⟩ = some x' := by
    by_cases e : k = 0
    · subst e; exact ⟨u, World.cell?_setCell_same W ⟨g, 0, none⟩ u h1⟩
    · exact ⟨x, by rw [World.cell?_setCell_other W ⟨g, k, none⟩ ⟨g, 0, none⟩ u (by intro q; injection q with _ q2; exact e q2)]; exact h1⟩
  have h2' : ∃ x', (W.setCell ⟨g, k, none⟩ u).cell? ⟨g, 1, none⟩ = some x' := by
    by_cases e : k = 1
    · subst e; exact ⟨u, World.cell?_setCell_same W ⟨g, 1, none⟩ u h2⟩
    · exact ⟨y, by rw [World.cell?_setCell_other W ⟨g, k, none⟩ ⟨g, 1, none⟩ u (by intro q; injection q with _ q2; exact e q2)]; exact h2⟩
  obtain ⟨x', hx⟩ := h1'
  obtain ⟨y', hy⟩ := h2'
  exact ⟨x', y', hx, hy, by rw [World.frozen?_setCell]; exact h3, by rw [World.frozen?_setCell]; exact h4⟩
theorem Two.own {W w5 w : World} {r : Nat} {A : Option Addr} {l : List Value} (ht : Two W r) (ho : OwnS W.heap.size w5 A l) (hw : Below w.heap.size w W) (u u' : Value) : OwnS w.heap.size ((w5.setCell ⟨r, 0, none⟩ u).setCell ⟨r, 1, none⟩ u') A l := by
  obtain ⟨x, y, h1, _⟩ := ht
  have hl := World.block_lt_of_cell? W _ h1
  exact ((ho.put hl u).put hl u').more hw.size
/-- Three cells that a region reads, its result's two, and what it leaves alone: kept by a call, kept by the store of the result. -/
theorem kept3 {r b1 o1 b2 o2 b3 o3 : Nat} {v1 v2 v3 : Value} {W W' w : World} (h1 : W.cell? ⟨b1, o1, none⟩ = some v1) (h2 : W.cell? ⟨b2, o2, none⟩ = some v2) (h3 : W.cell? ⟨b3, o3, none⟩ = some v3) (ht : Two W r) (hw : Below w.heap.size w W) (hb : Below W.heap.size W W') :
    W'.cell? ⟨b1, o1, none⟩ = some v1 ∧ W'.cell? ⟨b2, o2, none⟩ = some v2 ∧ W'.cell? ⟨b3, o3, none⟩ = some v3 ∧ Two W' r ∧ Below w.heap.size w W' :=
  ⟨cell_kept h1 hb, cell_kept h2 hb, cell_kept h3 hb, ht.below hb, bt hw hb⟩
theorem put3 {r b1 o1 b2 o2 b3 o3 : Nat} {v1 v2 v3 : Value} {W w : World} (u u' : Value) (h1 : W.cell? ⟨b1, o1, none⟩ = some v1) (h2 : W.cell? ⟨b2, o2, none⟩ = some v2) (h3 : W.cell? ⟨b3, o3, none⟩ = some v3) (ht : Two W r) (hw : Below w.heap.size w W) (hr : w.heap.size ≤ r) (n1 : r ≠ b1) (n2 : r ≠ b2) (n3 : r ≠ b3) :
    ((W.setCell ⟨r, 0, none⟩ u).setCell ⟨r, 1, none⟩ u').cell? ⟨b1, o1, none⟩ = some v1 ∧ ((W.setCell ⟨r, 0, none⟩ u).setCell ⟨r, 1, none⟩ u').cell? ⟨b2, o2, none⟩ = some v2 ∧ ((W.setCell ⟨r, 0, none⟩ u).setCell ⟨r, 1, none⟩ u').cell? ⟨b3, o3, none⟩ = some v3 ∧ Two ((W.setCell ⟨r, 0, none⟩ u).setCell ⟨r, 1, none⟩ u') r ∧ Below w.heap.size w ((W.setCell ⟨r, 0, none⟩ u).setCell ⟨r, 1, none⟩ u') :=
  ⟨cell_put (cell_put h1 n1) n1, cell_put (cell_put h2 n2) n2, cell_put (cell_put h3 n3) n3, ht.put.put, below_put (below_put hw hr _) hr _⟩

theorem box0 (w : World) (T : TypeId) (x y : Value) : (w.alloc (.cells #[x, y] T)).cell? ⟨w.heap.size, 0, none⟩ = some x := by
  have h := cell_of_row _ _ 0 _ _ (0, 0) (heap_alloc_new w (.cells #[x, y] T))
  exact h
theorem box1 (w : World) (T : TypeId) (x y : Value) : (w.alloc (.cells #[x, y] T)).cell? ⟨w.heap.size, 1, none⟩ = some y := by
  have h := cell_of_row _ _ 1 _ _ (0, 0) (heap_alloc_new w (.cells #[x, y] T))
  exact h
theorem boxf (w : World) (T : TypeId) (x y : Value) (k : Nat) : (w.alloc (.cells #[x, y] T)).frozen? ⟨w.heap.size, k, none⟩ = false := by
  have h := heap_alloc_new w (.cells #[x, y] T)
  unfold World.frozen?; rw [h]; simp
theorem boxT (w : World) (T : TypeId) (x y : Value) : Two (w.alloc (.cells #[x, y] T)) w.heap.size := ⟨x, y, box0 w T x y, box1 w T x y, boxf w T x y 0, boxf w T x y 1⟩
theorem boxes3 (w : World) (T1 T2 T3 : TypeId) (x1 y1 x2 y2 x3 y3 : Value) (W : World) (hW : ((w.alloc (.cells #[x1, y1] T1)).alloc (.cells #[x2, y2] T2)).alloc (.cells #[x3, y3] T3) = W) :
    W.cell? ⟨w.heap.size, 0, none⟩ = some x1 ∧ W.cell? ⟨w.heap.size, 1, none⟩ = some y1 ∧ W.cell? ⟨w.heap.size + 1, 0, none⟩ = some x2 ∧ W.cell? ⟨w.heap.size + 1, 1, none⟩ = some y2 ∧ Two W (w.heap.size + 1 + 1) ∧ Below w.heap.size w W := by
  subst hW
  have h2 := ba1 ((w.alloc (.cells #[x1, y1] T1)).alloc (.cells #[x2, y2] T2)) (.cells #[x3, y3] T3)
  have h1 := ba2 (w.alloc (.cells #[x1, y1] T1)) (.cells #[x2, y2] T2) (.cells #[x3, y3] T3)
  have e1 := sz1 w (.cells #[x1, y1] T1)
  have e2 := sz2 w (.cells #[x1, y1] T1) (.cells #[x2, y2] T2)
  refine ⟨cell_kept (box0 w T1 x1 y1) h1, cell_kept (box1 w T1 x1 y1) h1, ?_, ?_, ?_, ba3 _ _ _ _⟩
  · have := box0 (w.alloc (.cells #[x1, y1] T1)) T2 x2 y2
    rw [e1] at this
    exact cell_kept this h2
  · have := box1 (w.alloc (.cells #[x1, y1] T1)) T2 x2 y2
    rw [e1] at this
    exact cell_kept this h2
  · have := boxT ((w.alloc (.cells #[x1, y1] T1)).alloc (.cells #[x2, y2] T2)) T3 x3 y3
    rw [e2] at this
    exact this

theorem Two.lt {W : World} {r : Nat} (h : Two W r) : r + 1 ≤ W.heap.size := by
  obtain ⟨x, y, h1, _⟩ := h
  exact World.block_lt_of_cell? W _ h1
/-- Four cells that a region reads, its result's two, and what it leaves alone. -/
theorem kept4 {r b1 o1 b2 o2 b3 o3 b4 o4 : Nat} {v1 v2 v3 v4 : Value} {W W' w : World} (h1 : W.cell? ⟨b1, o1, none⟩ = some v1) (h2 : W.cell? ⟨b2, o2, none⟩ = some v2) (h3 : W.cell? ⟨b3, o3, none⟩ = some v3) (h4 : W.cell? ⟨b4, o4, none⟩ = some v4) (ht : Two W r) (hw : Below w.heap.size w W) (hb : Below W.heap.size W W') :
    W'.cell? ⟨b1, o1, none⟩ = some v1 ∧ W'.cell? ⟨b2, o2, none⟩ = some v2 ∧ W'.cell? ⟨b3, o3, none⟩ = some v3 ∧ W'.cell? ⟨b4, o4, none⟩ = some v4 ∧ Two W' r ∧ Below w.heap.size w W' :=
  ⟨cell_kept h1 hb, cell_kept h2 hb, cell_kept h3 hb, cell_kept h4 hb, ht.below hb, bt hw hb⟩
theorem put4 {r b1 o1 b2 o2 b3 o3 b4 o4 : Nat} {v1 v2 v3 v4 : Value} {W w : World} (u u' : Value) (h1 : W.cell? ⟨b1, o1, none⟩ = some v1) (h2 : W.cell? ⟨b2, o2, none⟩ = some v2) (h3 : W.cell? ⟨b3, o3, none⟩ = some v3) (h4 : W.cell? ⟨b4, o4, none⟩ = some v4) (ht : Two W r) (hw : Below w.heap.size w W) (hr : w.heap.size ≤ r) (n1 : r ≠ b1) (n2 : r ≠ b2) (n3 : r ≠ b3) (n4 : r ≠ b4) :
    ((W.setCell ⟨r, 0, none⟩ u).setCell ⟨r, 1, none⟩ u').cell? ⟨b1, o1, none⟩ = some v1 ∧ ((W.setCell ⟨r, 0, none⟩ u).setCell ⟨r, 1, none⟩ u').cell? ⟨b2, o2, none⟩ = some v2 ∧ ((W.setCell ⟨r, 0, none⟩ u).setCell ⟨r, 1, none⟩ u').cell? ⟨b3, o3, none⟩ = some v3 ∧ ((W.setCell ⟨r, 0, none⟩ u).setCell ⟨r, 1, none⟩ u').cell? ⟨b4, o4, none⟩ = some v4 ∧ Two ((W.setCell ⟨r, 0, none⟩ u).setCell ⟨r, 1, none⟩ u') r ∧ Below w.heap.size w ((W.setCell ⟨r, 0, none⟩ u).setCell ⟨r, 1, none⟩ u') :=
  ⟨cell_put (cell_put h1 n1) n1, cell_put (cell_put h2 n2) n2, cell_put (cell_put h3 n3) n3, cell_put (cell_put h4 n4) n4, ht.put.put, below_put (below_put hw hr _) hr _⟩

/-- The sign and the magnitude of the sum. -/
def plusB (p : Bool) (a : Nat) (q : Bool) (b : Nat) : Bool := if p = q then p else if a < b then q else p
def plusN (p : Bool) (a : Nat) (q : Bool) (b : Nat) : Nat := if p = q then a + b else if a < b then b - a else a - b
theorem plus_z (x y : Int) : (if plusB (zn x) x.natAbs (zn y) y.natAbs then -((plusN (zn x) x.natAbs (zn y) y.natAbs : Nat) : Int) else (plusN (zn x) x.natAbs (zn y) y.natAbs : Nat)) = x + y := by
  unfold plusB plusN zn
  by_cases hx : x < 0 <;> by_cases hy : y < 0 <;> by_cases hab : x.natAbs < y.natAbs <;> simp [hx, hy, hab] <;> omega
end Go.Proofs.YtnejpdlikdgnnaaDoor
