/-
  A value of many cells stored into a block at once.
-/
import Derived.Laws.Tables
import Derived.Laws.Cells
import Derived.Test.YtennekieiioilaaGreatSl
namespace Go.Proofs.YtennekieiioilaaGreat
open Go.ChangeShapes Go.WideShapes Go.ChangeAt Go.RowKit
set_option linter.unusedVariables false
set_option linter.unusedSimpArgs false
set_option maxRecDepth 4000

theorem run_storeCells_at {P : Program} (g off : Nat) (t : TypeId) : ∀ (vs : List Value) (i : Nat) (cur : Array Value) (w : World), w.heap[g]? = some (.cells cur t (0, 0)) → off + i + vs.length ≤ cur.size → (∀ v ∈ vs, v.oneCell' = true) →
    (storeCells ⟨g, off, none⟩ vs i).run P w = .ok () (w.setRow g (cur.toList.take (off + i) ++ (vs ++ cur.toList.drop (off + i + vs.length))).toArray)
  | [], i, cur, w, hg, hl, _ => by
    have hlt : g < w.heap.size := (Array.getElem?_eq_some_iff.1 hg).1
    have hv : w.heap[g] = .cells cur t (0, 0) := (Array.getElem?_eq_some_iff.1 hg).2
    have e : cur.toList.take (off + i) ++ ([] ++ cur.toList.drop (off + i + ([] : List Value).length)) = cur.toList := by
      rw [List.nil_append, List.length_nil, Nat.add_zero, List.take_append_drop]
    rw [e]
    simp only [storeCells, Array.toArray_toList]
    show Result.ok () w = _
    congr 1
    unfold World.setRow
    cases w with
    | mk heap tape drawn os output =>
      congr 1
      apply Array.ext
      · simp
      · intro k h1 h2
        simp only [Array.getElem_modify]
        split
        · rename_i hk; subst hk; simp at hv; simp [hv]
        · rfl
  | v :: rest, i, cur, w, hg, hl, h1 => by
    have hi : off + i < cur.size := by simp at hl; omega
    have hadd : (⟨g, off, none⟩ : Addr).add i = ⟨g, off + i, none⟩ := by unfold Addr.add; split <;> simp_all
    have hcell : w.cell? ⟨g, off + i, none⟩ = some cur[off + i] := by simp [World.cell?, hg, hi]
    have hfro : w.frozen? ⟨g, off + i, none⟩ = false := by simp [World.frozen?, hg]
    have hst : (store ((⟨g, off, none⟩ : Addr).add i) v).run P w = .ok () (w.setRow g (cur.setIfInBounds (off + i) v)) := by
      rw [hadd, run_store P w _ v _ (h1 v (by simp)), hcell]
      simp [hfro, setCell_eq_setRow w g (off + i) cur t (0, 0) v hg]
    have ih := run_storeCells_at (P := P) g off t rest (i + 1) (cur.setIfInBounds (off + i) v) (w.setRow g (cur.setIfInBounds (off + i) v)) (setRow_heap w g cur _ t _ hg) (by simp at hl ⊢; omega) (fun x hx => h1 x (by simp [hx]))
    simp only [storeCells, Sem.run_bind, hst, Result.andThen_ok, ih, setRow_setRow]
    congr 3
    have hs : off + (i + 1) = off + i + 1 := by omega
    rw [hs, Array.toList_setIfInBounds]
    have e1 : (cur.toList.set (off + i) v).take (off + i + 1) = cur.toList.take (off + i) ++ [v] := by
      rw [List.take_add_one, List.take_set_of_le (Nat.le_refl _), List.getElem?_set_self (by simpa using hi)]
      rfl
    have e2 : (cur.toList.set (off + i) v).drop (off + i + 1 + rest.length) = cur.toList.drop (off + i + (v :: rest).length) := by
      rw [List.drop_set_of_lt (by omega)]
      congr 1
      simp; omega
    rw [e1, e2]
    simp
/-- A value stored into a block from cell off on. -/
theorem run_storeVar_at {P : Program} (w : World) (g off : Nat) (t ty : TypeId) (old cells : Array Value) (hg : w.heap[g]? = some (.cells old t (0, 0))) (hi : (P.info? ty).map (·.size) = some cells.size)
    (ho : off + cells.size ≤ old.size) (h1 : cells.all (·.oneCell') = true) :
    (storeVar ty ⟨g, off, none⟩ (.agg cells)).run P w = .ok () (w.setRow g (old.toList.take off ++ (cells.toList ++ old.toList.drop (off + cells.size))).toArray) := by
  have := run_storeCells_at (P := P) g off t cells.toList 0 old w hg (by simpa using ho) (fun v hv => (Array.all_eq_true_iff_forall_mem.1 h1) v (by simpa using hv))
  cases hq : P.info? ty with
  | none => simp [hq] at hi
  | some i =>
    have hs : cells.size = i.size := by simp [hq] at hi; omega
    simp [storeVar, sizeOf, typeInfo, hq, Value.cells, hs] at this ⊢
    exact this
theorem wpList_store_at {P : Program} {ops : Array Oper} {rest : List Oper} {o : Oper} {a : Act} {w : World} {Q : Exit → Act → World → Prop} (hgd : o.guard = none) (ty : TypeId) (x y : Operand) (ho : o.op = .store ty x y)
    (g off : Nat) (cells : Array Value) (hx : a.eval x = .pointer (some ⟨g, off, none⟩)) (hy : a.eval y = .agg cells)
    (t : TypeId) (old : Array Value) (hg : w.heap[g]? = some (.cells old t (0, 0))) (hi : (P.info? ty).map (·.size) = some cells.size)
    (hold : off + cells.size ≤ old.size) (h1 : cells.all (·.oneCell') = true)
    (h : wpList P ops Q rest (a.put o.dst undef) (w.setRow g (old.toList.take off ++ (cells.toList ++ old.toList.drop (off + cells.size))).toArray)) : wpList P ops Q (o :: rest) a w :=
  wpList_plain hgd fun _ hK => by
    unfold Oper.wp execOp
    simp only [ho, hx, hy, Instr.storeAt, Instr.sureAddr, Sem.run_bind, Sem.run_pure, Result.andThen_ok, run_storeVar_at w g off t ty old cells hg hi hold h1]
    exact hK _ _ h
theorem setRow_far (w : World) (g k : Nat) (cs : Array Value) (h : k ≠ g) : (w.setRow g cs).heap[k]? = w.heap[k]? := by
  unfold World.setRow
  simp only
  rw [Array.getElem?_modify, if_neg (fun e => h e.symm)]
theorem setRow_size (w : World) (g : Nat) (cs : Array Value) : (w.setRow g cs).heap.size = w.heap.size := by simp [World.setRow]
theorem below_setRow {B g : Nat} {w w1 : World} (h : Below B w w1) (hg : B ≤ g) (cs : Array Value) : Below B w (w1.setRow g cs) :=
  ⟨h.1, h.2, h.3, by rw [setRow_size]; exact h.size, fun k hk => by rw [setRow_far _ _ _ _ (by omega)]; exact h.block k hk⟩
theorem turn_setRow (g : Nat) (w : World) (cs : Array Value) : Turn g (g + 1) w (w.setRow g cs) :=
  ⟨rfl, rfl, rfl, by rw [setRow_size]; exact Nat.le_refl _, fun k hk hd => setRow_far _ _ _ _ (by omega)⟩
theorem Owns.setRow {lo hi g : Nat} {w : World} {rs : List (Option Addr × List Value)} (h : Owns lo hi w rs) (hb : g < lo ∨ hi ≤ g) (cs : Array Value) : Owns lo hi (w.setRow g cs) rs :=
  h.turn (turn_setRow g w cs) (by omega)
theorem rowV_other {w : World} {g k : Nat} {o : Obj} (P : w.heap[k]? = some o) (h : g ≠ k) (cs : Array Value) : (w.setRow g cs).heap[k]? = some o := by rw [setRow_far _ _ _ _ (fun e => h e.symm)]; exact P
theorem rowV_set {w : World} {g : Nat} {t : TypeId} {old : Array Value} (P : w.heap[g]? = some (.cells old t (0, 0))) (cs : Array Value) : (w.setRow g cs).heap[g]? = some (.cells cs t (0, 0)) := setRow_heap w g old cs t _ P
theorem OwnS.of_row {B g : Nat} {w : World} {t : TypeId} {cs : Array Value} (P : w.heap[g]? = some (.cells cs t (0, 0))) (hB : B ≤ g) : OwnS B w (some ⟨g, 0, none⟩) cs.toList :=
  .inr ⟨g, rfl, hB, rblk_lt P, fun j hj => by rw [cell_of_row w g j cs t (0, 0) P]; simp, fun j hj => by simp [World.frozen?, P]⟩
theorem run_loadRow {P : Program} (w : World) (g : Nat) (t : TypeId) (c : Array Value) (hg : w.heap[g]? = some (.cells c t (0, 0))) :
    (loadCellsFrom ⟨g, 0, none⟩ 0 c.size #[]).run P w = .ok c w := by
  have h := run_loadCellsFrom (P := P) (w := w) ⟨g, 0, none⟩ (fun j => c[j]!) c.size 0 #[] (fun j hj => by
    have ha : (⟨g, 0, none⟩ : Addr).add (0 + j) = ⟨g, j, none⟩ := by unfold Addr.add; split <;> simp_all
    rw [ha, cell_of_row w g j c t (0, 0) hg, Nat.zero_add, Array.getElem?_eq_getElem hj, getElem!_pos c j hj])
  rw [h]
  congr 1
  apply Array.ext
  · simp
  · intro i h1 h2
    simp [getElem!_pos c i h2]
theorem results_row {P : Program} {fn : Func} {t : Nat} {ty T : TypeId} (h : fn.results = #[.cell t ty]) (tmps : Array Value) (w : World) (g : Nat) (c : Array Value) (ht : tmps[t]?.getD undef = .pointer (some ⟨g, 0, none⟩))
    (hu : ∀ w, (isAgg ty).run P w = .ok true w) (hs : ∀ w, (sizeOf ty).run P w = .ok c.size w) (hg : w.heap[g]? = some (.cells c T (0, 0))) :
    (results fn tmps).run P w = .ok (.agg c) w := by
  simp [results, h, ht, asAddr, loadVar, loadCells, hu, hs, run_loadRow w g T c hg]
theorem run_size {P : Program} {ty : TypeId} {n : Nat} (h : (P.info? ty).map (·.size) = some n) (w : World) : (sizeOf ty).run P w = .ok n w := by
  cases hq : P.info? ty with
  | none => simp [hq] at h
  | some i => simp [hq] at h; simp [sizeOf, typeInfo, hq, h]
theorem run_loadAt_cells {P : Program} (w : World) (g off : Nat) (c : Array Value) (hc : ∀ j, j < c.size → w.cell? ⟨g, off + j, none⟩ = c[j]?) :
    (loadCellsFrom ⟨g, off, none⟩ 0 c.size #[]).run P w = .ok c w := by
  have h := run_loadCellsFrom (P := P) (w := w) ⟨g, off, none⟩ (fun j => c[j]!) c.size 0 #[] (fun j hj => by
    have ha : (⟨g, off, none⟩ : Addr).add (0 + j) = ⟨g, off + j, none⟩ := by unfold Addr.add; split <;> simp_all
    rw [ha, hc j hj, Nat.zero_add, Array.getElem?_eq_getElem hj, getElem!_pos c j hj])
  rw [h]
  congr 1
  apply Array.ext
  · simp
  · intro i h1 h2
    simp [getElem!_pos c i h2]
/-- A value of many cells read at once. -/
theorem wpList_load_at {P : Program} {ops : Array Oper} {rest : List Oper} {o : Oper} {a : Act} {w : World} {Q : Exit → Act → World → Prop} (hgd : o.guard = none) (ty : TypeId) (x : Operand) (ho : o.op = .load ty x)
    (g off : Nat) (c : Array Value) (hx : a.eval x = .pointer (some ⟨g, off, none⟩)) (hu : ∀ w, (isAgg ty).run P w = .ok true w) (hs : ∀ w, (sizeOf ty).run P w = .ok c.size w)
    (hc : ∀ j, j < c.size → w.cell? ⟨g, off + j, none⟩ = c[j]?)
    (h : wpList P ops Q rest (a.put o.dst (.agg c)) w) : wpList P ops Q (o :: rest) a w :=
  wpList_plain hgd fun _ hK => by
    unfold Oper.wp execOp
    simp only [ho, hx, Instr.loadAt, Instr.sureAddr, loadVar, loadCells, Sem.run_bind, Sem.run_pure, Result.andThen_ok, hu, hs, run_loadAt_cells w g off c hc, if_true]
    exact hK _ _ h
theorem cells_row {w : World} {g : Nat} {T : TypeId} {c : Array Value} (hg : w.heap[g]? = some (.cells c T (0, 0))) : ∀ j, j < c.size → w.cell? ⟨g, 0 + j, none⟩ = c[j]? := fun j _ => by
  rw [Nat.zero_add, cell_of_row w g j c T (0, 0) hg]
theorem blk_of_made6 {w : World} {base g n : Nat} {T : TypeId} {xs : List Value} (h : w.ownsRow base T 6 (.slice (some ⟨g, 0, none⟩) n n) n xs) : w.heap[g]? = some (.cells xs.toArray T (0, 0)) := by
  obtain ⟨hl, hr⟩ := h
  rcases hr with ⟨hv, _⟩ | ⟨g', cap, cur, hv, hbg, hh, hnc, hm, hsz, htake⟩
  · cases hv
  · injection hv with e1 e2 e3
    injection e1 with e1
    injection e1 with e1
    subst e1; subst e3
    have : cur = xs.toArray := by
      rw [← htake, List.take_of_length_le (by rw [Array.length_toList]; omega)]
    rw [hh, this]
theorem flat_store {L : List PV} {i : Nat} {p : PV} (h : L[i]? = some p) (q : PV) : ((flat L).toArray.toList.take (i * 6) ++ ((#[.bool q.x.p, .slice q.a.A q.x.l.length q.a.c, .slice q.a.D q.x.m.length q.a.d, .bool q.y.p, .slice q.b.A q.y.l.length q.b.c, .slice q.b.D q.y.m.length q.b.d] : Array Value).toList ++ (flat L).toArray.toList.drop (i * 6 + (#[.bool q.x.p, .slice q.a.A q.x.l.length q.a.c, .slice q.a.D q.x.m.length q.a.d, .bool q.y.p, .slice q.b.A q.y.l.length q.b.c, .slice q.b.D q.y.m.length q.b.d] : Array Value).size))).toArray = (flat (L.set i q)).toArray := by
  have hl := lt_of_getP h
  have hq : (L.set i q)[i]? = some q := List.getElem?_set_self hl
  have hlen : (flat (L.take i)).length = i * 6 := by rw [flat_length, List.length_take, Nat.min_eq_left (by omega)]
  have e1 : (L.set i q).take i = L.take i := List.take_set_of_le (Nat.le_refl _)
  have e2 : (L.set i q).drop (i + 1) = L.drop (i + 1) := List.drop_set_of_lt (Nat.lt_succ_self _)
  rw [flat_split hq, e1, e2]
  congr 1
  show (flat L).take (i * 6) ++ (pcl q ++ (flat L).drop (i * 6 + 6)) = _
  have h3 : (flat L).take (i * 6) = flat (L.take i) := by rw [flat_split h, List.take_append_of_le_length (by omega), List.take_of_length_le (by omega)]
  have h4 : (flat L).drop (i * 6 + 6) = flat (L.drop (i + 1)) := by
    rw [flat_split h, List.drop_append, List.drop_of_length_le (by omega), hlen, List.nil_append, show i * 6 + 6 - i * 6 = 6 by omega]
    rfl
  rw [h3, h4]
end Go.Proofs.YtennekieiioilaaGreat
