/-
  A value of many cells stored into a block at once.
-/
import Derived.Laws.Tables
import Derived.Laws.Cells
import Derived.Test.YtaohiacpdljacaaGreatSl
namespace Go.Proofs.YtaohiacpdljacaaGreat
open Go.ChangeShapes Go.WideShapes Go.ChangeAt Go.RowKit
set_option linter.unusedVariables false
set_option linter.unusedSimpArgs false
set_option maxRecDepth 4000
theorem setRow_far (w : World) (g k : Nat) (cs : Array Value) (h : k ≠ g) : (w.setRow g cs).heap[k]? = w.heap[k]? := by
  unfold World.setRow
  simp only
  rw [Array.getElem?_modify, if_neg (fun e => h e.symm)]
theorem setRow_size (w : World) (g : Nat) (cs : Array Value) : (w.setRow g cs).heap.size = w.heap.size := by simp [World.setRow]
theorem below_setRow {B g : Nat} {w w1 : World} (h : Below B w w1) (hg : B ≤ g) (cs : Array Value) : Below B w (w1.setRow g cs) :=
  ⟨h.1, h.2, h.3, by rw [setRow_size]; exact h.size, fun k hk => by rw [setRow_far _ _ _ _ (by omega)]; exact h.block k hk⟩
theorem rowV_other {w : World} {g k : Nat} {o : Obj} (P : w.heap[k]? = some o) (h : g ≠ k) (cs : Array Value) : (w.setRow g cs).heap[k]? = some o := by rw [setRow_far _ _ _ _ (fun e => h e.symm)]; exact P
theorem rowV_set {w : World} {g : Nat} {t : TypeId} {old : Array Value} (P : w.heap[g]? = some (.cells old t (0, 0))) (cs : Array Value) : (w.setRow g cs).heap[g]? = some (.cells cs t (0, 0)) := setRow_heap w g old cs t _ P
theorem run_loadRow {P : Program} (w : World) (g : Nat) (t : TypeId) (c : Array Value) (hg : w.heap[g]? = some (.cells c t (0, 0))) :
    (loadCellsFrom ⟨g, 0, none⟩ 0 c.size #[]).run P w = .ok c w := by
  have h := run_loadCellsFrom (P := P) (w := w) ⟨g, 0, none⟩ (fun j => c[j]!) c.size 0 #[] (fun j hj => by
    have ha : (⟨g, 0, none⟩ : Addr).add (0 + j) = ⟨g, j, none⟩ := by unfold Addr.add; split <;> simp_all
    rw [ha, cell_of_row w g j c t (0, 0) hg, Nat.zero_add, Array.getElem?_eq_getElem hj, getElem!_pos c j hj])
  rw [h]
  congr 1
  apply Array.ext
  · simp
  · intro i h1 h2
    simp [getElem!_pos c i h2]
theorem results_row {P : Program} {fn : Func} {t : Nat} {ty T : TypeId} (h : fn.results = #[.cell t ty]) (tmps : Array Value) (w : World) (g : Nat) (c : Array Value) (ht : tmps[t]?.getD undef = .pointer (some ⟨g, 0, none⟩))
    (hu : ∀ w, (isAgg ty).run P w = .ok true w) (hs : ∀ w, (sizeOf ty).run P w = .ok c.size w) (hg : w.heap[g]? = some (.cells c T (0, 0))) :
    (results fn tmps).run P w = .ok (.agg c) w := by
  simp [results, h, ht, asAddr, loadVar, loadCells, hu, hs, run_loadRow w g T c hg]
theorem tri_agg (w : World) : (isAgg 53).run Tryz.prog w = .ok true w := by simp [isAgg, run_underlying Tryz.underlying53]
theorem pt_size : (Tryz.prog.info? 31).map (·.size) = some 6 := by kernel_rfl
theorem pt_agg (w : World) : (isAgg 31).run Tryz.prog w = .ok true w := by simp [isAgg, run_underlying Tryz.underlying31]
theorem tri_size : (Tryz.prog.info? 53).map (·.size) = some 18 := by kernel_rfl
theorem run_size {P : Program} {ty : TypeId} {n : Nat} (h : (P.info? ty).map (·.size) = some n) (w : World) : (sizeOf ty).run P w = .ok n w := by
  cases hq : P.info? ty with
  | none => simp [hq] at h
  | some i => simp [hq] at h; simp [sizeOf, typeInfo, hq, h]
theorem run_loadAt_cells {P : Program} (w : World) (g off : Nat) (c : Array Value) (hc : ∀ j, j < c.size → w.cell? ⟨g, off + j, none⟩ = c[j]?) :
    (loadCellsFrom ⟨g, off, none⟩ 0 c.size #[]).run P w = .ok c w := by
  have h := run_loadCellsFrom (P := P) (w := w) ⟨g, off, none⟩ (fun j => c[j]!) c.size 0 #[] (fun j hj => by
    have ha : (⟨g, off, none⟩ : Addr).add (0 + j) = ⟨g, off + j, none⟩ := by unfold Addr.add; split <;> simp_all
    rw [ha, hc j hj, Nat.zero_add, Array.getElem?_eq_getElem hj, getElem!_pos c j hj])
  rw [h]
  congr 1
  apply Array.ext
  · simp
  · intro i h1 h2
    simp [getElem!_pos c i h2]
/-- A value of many cells read at once. -/
theorem wpList_load_at {P : Program} {ops : Array Oper} {rest : List Oper} {o : Oper} {a : Act} {w : World} {Q : Exit → Act → World → Prop} (hgd : o.guard = none) (ty : TypeId) (x : Operand) (ho : o.op = .load ty x)
    (g off : Nat) (c : Array Value) (hx : a.eval x = .pointer (some ⟨g, off, none⟩)) (hu : ∀ w, (isAgg ty).run P w = .ok true w) (hs : ∀ w, (sizeOf ty).run P w = .ok c.size w)
    (hc : ∀ j, j < c.size → w.cell? ⟨g, off + j, none⟩ = c[j]?)
    (h : wpList P ops Q rest (a.put o.dst (.agg c)) w) : wpList P ops Q (o :: rest) a w :=
  wpList_plain hgd fun _ hK => by
    unfold Oper.wp execOp
    simp only [ho, hx, Instr.loadAt, Instr.sureAddr, loadVar, loadCells, Sem.run_bind, Sem.run_pure, Result.andThen_ok, hu, hs, run_loadAt_cells w g off c hc, if_true]
    exact hK _ _ h
theorem cells_row {w : World} {g : Nat} {T : TypeId} {c : Array Value} (hg : w.heap[g]? = some (.cells c T (0, 0))) : ∀ j, j < c.size → w.cell? ⟨g, 0 + j, none⟩ = c[j]? := fun j _ => by
  rw [Nat.zero_add, cell_of_row w g j c T (0, 0) hg]
end Go.Proofs.YtaohiacpdljacaaGreat
