/-
  Slices of ints: as values, and as whole blocks of the call's own.
-/
import Derived.Test.YtmmgcdfifcbabaaGreatDoorOwn
import Derived.Test.YtmmgcdfifcbabaaGreatDoorNum
namespace Go.Proofs.YtmmgcdfifcbabaaGreatDoor
open Go.ChangeShapes Go.WideShapes Go.ChangeAt Go.RowKit
open Go.ChangeMaps (open_string shut_string)
set_option linter.unusedVariables false
set_option linter.unusedSimpArgs false

/-- The ints of a list, as values. -/
def vi (l : List Int) : List Value := l.map (Value.int .i64)
theorem vi_length (l : List Int) : (vi l).length = l.length := by simp [vi]
theorem vi_get {l : List Int} {k : Nat} (h : k < l.length) : (vi l)[k]? = some (.int .i64 l[k]) := by simp [vi, h]
theorem vi_get? {l : List Int} {k : Nat} {x : Int} (h : l[k]? = some x) : (vi l)[k]? = some (.int .i64 x) := by simp [vi, h]
theorem vi_append (l m : List Int) : vi (l ++ m) = vi l ++ vi m := by simp [vi]
theorem vi_take (l : List Int) (k : Nat) : vi (l.take k) = (vi l).take k := by simp [vi]
theorem vi_nil : vi [] = [] := rfl
/-- Every element is an int of the machine. -/
def Wd (l : List Int) : Prop := ∀ x ∈ l, -9223372036854775808 ≤ x ∧ x ≤ 9223372036854775807
theorem RdS.int {w : World} {A : Option Addr} {l : List Int} (h : RdS w A (vi l)) {k : Nat} {x : Int} (hx : l[k]? = some x) : ∃ b off, A = some ⟨b, off, none⟩ ∧ b < w.heap.size ∧ w.cell? ⟨b, off + k, none⟩ = some (.int .i64 x) := by
  have hk : k < l.length := by
    rcases Nat.lt_or_ge k l.length with h1 | h1
    · exact h1
    · rw [List.getElem?_eq_none h1] at hx; cases hx
  obtain ⟨b, off, ha, hb, hc⟩ := h.block (by rw [vi_length]; omega)
  exact ⟨b, off, ha, hb, by rw [hc k (by rw [vi_length]; exact hk), vi_get? hx]⟩
theorem RdS.int_at {w : World} {b off : Nat} {l : List Int} (h : RdS w (some ⟨b, off, none⟩) (vi l)) {k : Nat} {x : Int} (hx : l[k]? = some x) : w.cell? ⟨b, off + k, none⟩ = some (.int .i64 x) := by
  obtain ⟨b', off', ha, _, hc⟩ := h.int hx
  injection ha with e
  injection e with e1 e2
  subst e1; subst e2
  exact hc
theorem getElem_of? {l : List Int} {k : Nat} (h : k < l.length) : l[k]? = some l[k] := List.getElem?_eq_getElem h

/-- Block g holds just the ints L, and may be written. -/
def Blk (w : World) (g : Nat) (L : List Int) : Prop := w.heap[g]? = some (.cells (vi L).toArray 3 (0, 0))
theorem Blk.lt {w : World} {g : Nat} {L : List Int} (h : Blk w g L) : g < w.heap.size := (Array.getElem?_eq_some_iff.1 h).1
theorem Blk.cell {w : World} {g : Nat} {L : List Int} (h : Blk w g L) {k : Nat} {x : Int} (hx : L[k]? = some x) : w.cell? ⟨g, k, none⟩ = some (.int .i64 x) := by
  rw [cell_of_row w g k _ 3 (0, 0) h]
  simpa using vi_get? hx
theorem Blk.free {w : World} {g : Nat} {L : List Int} (h : Blk w g L) (k : Nat) : w.frozen? ⟨g, k, none⟩ = false := by
  have h' : w.heap[g]? = some (.cells (vi L).toArray 3 (0, 0)) := h
  unfold World.frozen?; rw [h']; simp
theorem Blk.set {w : World} {g : Nat} {L : List Int} (h : Blk w g L) (k : Nat) (x : Int) : Blk (w.setCell ⟨g, k, none⟩ (.int .i64 x)) g (L.set k x) := by
  have h' : w.heap[g]? = some (.cells (vi L).toArray 3 (0, 0)) := h
  show (w.setCell ⟨g, k, none⟩ (.int .i64 x)).heap[g]? = some (.cells (vi (L.set k x)).toArray 3 (0, 0))
  have e : (vi (L.set k x)).toArray = (vi L).toArray.setIfInBounds k (.int .i64 x) := by simp [vi, List.map_set]
  rw [e]
  simp [World.setCell, Array.getElem?_modify, h']
theorem Blk.below {w w' : World} {g B : Nat} {L : List Int} (h : Blk w g L) (hg : g < B) (hb : Below B w w') : Blk w' g L := by
  unfold Blk
  rw [hb.block g hg]
  exact h
theorem Blk.drew {w : World} {g n : Nat} {L : List Int} (h : Blk w g L) : Blk (w.drewN n) g L := h
theorem Blk.own {w : World} {g B : Nat} {L : List Int} (h : Blk w g L) (hB : B ≤ g) : OwnS B w (some ⟨g, 0, none⟩) (vi L) :=
  .inr ⟨g, rfl, hB, h.lt, fun j hj => by
    rw [vi_length] at hj
    rw [h.cell (getElem_of? hj), vi_get hj], fun j _ => h.free j⟩
/-- What make's law leaves. -/
theorem Blk.of_made {w : World} {base g n : Nat} {cs : List Value} (h : w.ownsRow base 3 1 (.slice (some ⟨g, 0, none⟩) n n) n cs) {L : List Int} (hL : cs = vi L) : Blk w g L := by
  obtain ⟨hl, hr⟩ := h
  rcases hr with ⟨hv, _⟩ | ⟨g', cap, cur, hv, hbg, hh, hnc, hm, hsz, htake⟩
  · cases hv
  · injection hv with e1 e2 e3
    injection e1 with e1
    injection e1 with e1
    subst e1; subst e3
    have : cur = (vi L).toArray := by
      rw [← hL, ← htake]
      have : cur.toList.length = n * 1 := by simpa using hsz
      rw [List.take_of_length_le (by omega)]
    show w.heap[g]? = _
    rw [hh, this]
theorem OwnS.other {B C : Nat} {w w0 w' : World} {A A' : Option Addr} {l l' : List Value} (h : OwnS B w A l) (hx : OwnS C w0 A' l') (hs : w0.heap.size ≤ B) (hg : w.grownBy w' (rowOf l'.length A')) : OwnS B w' A l := by
  rcases h with h | ⟨g, ha, hB, hsz, hc, hf⟩
  · exact .inl h
  · have hk : w'.heap[g]? = w.heap[g]? := hg.block g hsz (by
      unfold rowOf
      rcases hx with hx | ⟨g', ha', _, hs', _⟩
      · subst hx; simp
      · subst ha'
        split
        · simp
        · simp; omega)
    refine .inr ⟨g, ha, hB, Nat.lt_of_lt_of_le hsz hg.size, fun j hj => ?_, fun j hj => ?_⟩
    · rw [World.cell?_of_block (w := w) (a := ⟨g, j, none⟩) hk]; exact hc j hj
    · rw [World.frozen?_of_block (w := w) (a := ⟨g, j, none⟩) hk]; exact hf j hj
/-- What a row's writes leave of another block. -/
theorem RdS.grown {w w' : World} {g : Nat} {A : Option Addr} {l : List Value} (h : RdS w A l) (hA : ∀ b off, A = some ⟨b, off, none⟩ → b ≠ g) (hg : w.grownBy w' (some g)) : RdS w' A l := by
  rcases h with h | ⟨b, off, ha, hs, hc⟩
  · exact .inl h
  · have hk : w'.heap[b]? = w.heap[b]? := hg.block b hs (by intro q; injection q with q; exact hA b off ha q)
    refine .inr ⟨b, off, ha, Nat.lt_of_lt_of_le hs hg.size, fun j hj => ?_⟩
    rw [World.cell?_of_block (w := w) (a := ⟨b, off + j, none⟩) hk]; exact hc j hj
theorem grown_drewN {w w1 : World} {row : Option Nat} (h : w.grownBy w1 row) (n : Nat) : w.grownBy (w1.drewN n) row := ⟨h.os, h.tape, h.output, h.size, h.block⟩
theorem bt {a b c : World} (h1 : Below a.heap.size a b) (h2 : Below b.heap.size b c) : Below a.heap.size a c := h1.trans (h2.mono h1.size)
theorem grown_below {w w1 w2 : World} {row : Option Nat} (h : w.grownBy w1 row) (k : Below w1.heap.size w1 w2) : w.grownBy w2 row := grown_trans_below h k

/-- Row of L with the digits of T in places off .. off + i. -/
def lay (L : List Int) (off : Nat) (T : Int) (i : Nat) : List Int := L.take off ++ (row i T ++ L.drop (off + i))
theorem lay_zero (L : List Int) (off : Nat) (T : Int) : lay L off T 0 = L := by simp [lay, row]
theorem lay_length {L : List Int} {off i : Nat} (T : Int) (h : off + i ≤ L.length) : (lay L off T i).length = L.length := by
  simp [lay, row_length]; omega
theorem lay_set {L : List Int} {off i : Nat} (T : Int) (h : off + i < L.length) : (lay L off T i).set (off + i) (dgt T i) = lay L off T (i + 1) := by
  have hl : (L.take off ++ row i T).length = off + i := by simp [row_length]; omega
  unfold lay
  rw [← List.append_assoc, List.set_append_right _ _ (by omega), hl, Nat.sub_self]
  rw [List.drop_eq_getElem_cons h, List.set_cons_zero]
  have : row (i + 1) T = row i T ++ [dgt T i] := by simp [row, List.range_succ]
  rw [this, show off + (i + 1) = off + i + 1 by omega]
  simp
theorem lay_at {L : List Int} {off i : Nat} (T : Int) (h : off + i < L.length) : (lay L off T i)[off + i]? = L[off + i]? := by
  have hl : (L.take off ++ row i T).length = off + i := by simp [row_length]; omega
  unfold lay
  rw [← List.append_assoc, List.getElem?_append_right (by omega), hl, Nat.sub_self, List.getElem?_drop, Nat.add_zero]
theorem lay_all {n : Nat} (L : List Int) (T : Int) (h : L.length = n) : lay L 0 T n = row n T := by
  simp [lay, ← h]
theorem lay_in {L : List Int} {off n j : Nat} (T : Int) (h : off + n ≤ L.length) (hj : j < n) : (lay L off T n)[off + j]? = some (dgt T j) := by
  have hl : (L.take off).length = off := by simp; omega
  unfold lay
  rw [List.getElem?_append_right (by omega), hl, Nat.add_sub_cancel_left, List.getElem?_append_left (by rw [row_length]; exact hj), row_get T hj]
theorem lay_out {L : List Int} {off n j : Nat} (T : Int) (h : off + n ≤ L.length) (hj : j < off ∨ off + n ≤ j) : (lay L off T n)[j]? = L[j]? := by
  have hl : (L.take off).length = off := by simp; omega
  unfold lay
  rcases hj with hj | hj
  · rw [List.getElem?_append_left (by omega), List.getElem?_take, if_pos hj]
  · rw [List.getElem?_append_right (by omega), hl, List.getElem?_append_right (by rw [row_length]; omega), row_length, List.getElem?_drop]
    congr 1
    omega
theorem set_set (L : List Int) (k : Nat) (x y : Int) : (L.set k x).set k y = L.set k y := List.set_set ..
end Go.Proofs.YtmmgcdfifcbabaaGreatDoor
