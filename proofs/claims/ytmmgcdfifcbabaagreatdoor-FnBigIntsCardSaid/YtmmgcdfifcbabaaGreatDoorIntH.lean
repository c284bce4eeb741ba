/-
  What the harness' own functions of the exact laws do over slices of ints: 'toIntS', 'eqIntS', 'markIntS', 'heldIntS'.
-/
import Derived.Test.YtmmgcdfifcbabaaGreatDoorInts
import Derived.Outline
namespace Go.Proofs.YtmmgcdfifcbabaaGreatDoor
open Go.ChangeShapes Go.WideShapes Go.ChangeAt Go.RowKit
open Go.ChangeMaps (open_string shut_string)
set_option linter.unusedVariables false
set_option linter.unusedSimpArgs false
set_option maxRecDepth 4000

theorem ret_bool' {a b : Bool} (h : a = b) : Ending.returned (.bool a) = .returned (.bool b) := by rw [h]
theorem int_info : (Tryz.prog.info? 3).map (fun i => (i.zero, i.size, i.bytes)) = some (some (.int .i64 0), 1, 8) := by kernel_rfl
/-- A slice value, whatever its capacity, that reads as l in a row of the call's own. -/
def MadeI (B : Nat) (L : List Int) (w : World) (e : Ending) (w' : World) : Prop :=
  ∃ A c, e = .returned (.slice A L.length c) ∧ L.length ≤ c ∧ OwnS B w' A (vi L) ∧ Below w.heap.size w w'
/-- The first k elements agree. -/
def AgI (l m : List Int) (k : Nat) : Prop := ∀ j, j < k → l[j]? = m[j]?
theorem AgI.zero (l m : List Int) : AgI l m 0 := fun _ h => absurd h (by omega)
theorem AgI.succ {l m : List Int} {k : Nat} (h : AgI l m k) (h1 : l[k]? = m[k]?) : AgI l m (k + 1) := fun j hj => by
  rcases Nat.lt_or_ge j k with h2 | h2
  · exact h j h2
  · obtain rfl : j = k := by omega
    exact h1
theorem AgI.all {l m : List Int} (h : AgI l m l.length) (hl : l.length = m.length) : l = m := by
  apply List.ext_getElem?
  intro j
  rcases Nat.lt_or_ge j l.length with h2 | h2
  · exact h j h2
  · rw [List.getElem?_eq_none h2, List.getElem?_eq_none (by omega)]

/-- The marks k, k + 1, .. of n places. -/
def marks (k : Int) (n : Nat) : List Int := (List.range n).map (fun (i : Nat) => k + (i : Int))
theorem marks_length (k : Int) (n : Nat) : (marks k n).length = n := by simp [marks]
theorem marks_get {k : Int} {n j : Nat} (h : j < n) : (marks k n)[j]? = some (k + (j : Int)) := by simp [marks, h]
theorem vi_marks (k : Int) (n : Nat) : vi (marks k n) = (List.range n).map (fun (j : Nat) => Value.int .i64 (k + (j : Int))) := by simp [vi, marks]

/-- One more than the number of places: what the harness counts up to. -/
def mk1 (n : Nat) : Int := 1 + (n : Int)
theorem mk1_pos (n : Nat) : 0 < mk1 n := by unfold mk1; omega
theorem mk1_le (n : Nat) (h : n ≤ 1048576) : mk1 n ≤ 1048577 := by unfold mk1; omega
theorem dgt_zero (i : Nat) : dgt 0 i = 0 := by unfold dgt; rw [Int.zero_ediv]; rfl
theorem zeros (n : Nat) : (madeCells (Value.int .i64 0).cells (n * 1)).toList = vi (row n 0) := by
  have h1 : ∀ i : Nat, (Value.int IntKind.i64 0).cells[i % (Value.int IntKind.i64 0).cells.size]! = Value.int .i64 0 := by
    intro i
    show (#[Value.int IntKind.i64 0])[i % 1]! = _
    rw [Nat.mod_one]
    rfl
  apply List.ext_getElem?
  intro j
  rw [Nat.mul_one]
  simp only [madeCells, vi, row, Array.toList_map, Array.toList_range, List.map_map, List.getElem?_map]
  congr 1
  funext i
  simp only [Function.comp_apply, dgt_zero]
  exact h1 i

end Go.Proofs.YtmmgcdfifcbabaaGreatDoor
