/-
  Slices as lists of values: what may be read (RdS), what the call made itself (OwnS). Plain lemmas on worlds.
-/
import Derived.Test.YtmmgcdfifcbabaaGreatDoorKit
namespace Go.Proofs.YtmmgcdfifcbabaaGreatDoor
open Go.ChangeShapes Go.WideShapes Go.ChangeAt Go.RowKit
open Go.ChangeMaps (open_string shut_string)
set_option linter.unusedVariables false
set_option linter.unusedSimpArgs false

/-- The slice that begins at A reads as the values l. -/
def RdS (w : World) (A : Option Addr) (l : List Value) : Prop :=
  l = [] ∨ ∃ b off, A = some ⟨b, off, none⟩ ∧ b < w.heap.size ∧ ∀ j, j < l.length → w.cell? ⟨b, off + j, none⟩ = l[j]?
/-- The slice that begins at A is a row of the call's own, in a block from B on; it reads as the values l and may be written. -/
def OwnS (B : Nat) (w : World) (A : Option Addr) (l : List Value) : Prop :=
  l = [] ∨ ∃ g, A = some ⟨g, 0, none⟩ ∧ B ≤ g ∧ g < w.heap.size ∧ (∀ j, j < l.length → w.cell? ⟨g, j, none⟩ = l[j]?) ∧ ∀ j, j < l.length → w.frozen? ⟨g, j, none⟩ = false

theorem OwnS.rd {B : Nat} {w : World} {A : Option Addr} {l : List Value} (h : OwnS B w A l) : RdS w A l := by
  rcases h with h | ⟨g, ha, _, hs, hc, _⟩
  · exact .inl h
  · exact .inr ⟨g, 0, ha, hs, fun j hj => by rw [Nat.zero_add]; exact hc j hj⟩
theorem RdS.below {w w' : World} {A : Option Addr} {l : List Value} (h : RdS w A l) (hb : Below w.heap.size w w') : RdS w' A l := by
  rcases h with h | ⟨b, off, ha, hs, hc⟩
  · exact .inl h
  · exact .inr ⟨b, off, ha, Nat.lt_of_lt_of_le hs hb.size, fun j hj => by rw [hb.cell (p := ⟨b, off + j, none⟩) hs]; exact hc j hj⟩
theorem OwnS.below {B : Nat} {w w' : World} {A : Option Addr} {l : List Value} (h : OwnS B w A l) (hb : Below w.heap.size w w') : OwnS B w' A l := by
  rcases h with h | ⟨g, ha, hB, hs, hc, hf⟩
  · exact .inl h
  · refine .inr ⟨g, ha, hB, Nat.lt_of_lt_of_le hs hb.size, fun j hj => ?_, fun j hj => ?_⟩
    · rw [hb.cell (p := ⟨g, j, none⟩) hs]; exact hc j hj
    · rw [hb.frozen (p := ⟨g, j, none⟩) hs]; exact hf j hj
/-- A row from B on is untouched where only blocks below B have turned. -/
theorem OwnS.far {B C : Nat} {w w' : World} {A : Option Addr} {l : List Value} (h : OwnS B w A l) (hk : ∀ k, B ≤ k → k < C → w'.heap[k]? = w.heap[k]?) (hC : w.heap.size ≤ C) (hz : w.heap.size ≤ w'.heap.size) : OwnS B w' A l := by
  rcases h with h | ⟨g, ha, hB, hs, hc, hf⟩
  · exact .inl h
  · have hg := hk g hB (by omega)
    refine .inr ⟨g, ha, hB, by omega, fun j hj => ?_, fun j hj => ?_⟩
    · rw [World.cell?_of_block (w := w) (a := ⟨g, j, none⟩) hg]; exact hc j hj
    · rw [World.frozen?_of_block (w := w) (a := ⟨g, j, none⟩) hg]; exact hf j hj
theorem RdS.lt_block {w : World} {A : Option Addr} {l : List Value} (h : RdS w A l) {w' : World} {C : Nat} (hA : ∀ b off, A = some ⟨b, off, none⟩ → b < C) (hb : Below C w w') : RdS w' A l := by
  rcases h with h | ⟨b, off, ha, hs, hc⟩
  · exact .inl h
  · exact .inr ⟨b, off, ha, Nat.lt_of_lt_of_le hs hb.size, fun j hj => by rw [hb.cell (p := ⟨b, off + j, none⟩) (hA _ _ ha)]; exact hc j hj⟩
/-- What append's laws leave. -/
theorem OwnS.of_own {w : World} {base : Nat} {e : TypeId} {A : Option Addr} {n c : Nat} {l : List Value} (h : w.ownsRow base e 1 (.slice A n c) n l) : OwnS base w A l := by
  by_cases h0 : l = []
  · exact .inl h0
  · have hn : 0 < n := by
      have := h.1
      rcases Nat.eq_zero_or_pos n with h1 | h1
      · subst h1; simp at this; exact absurd this h0
      · exact h1
    have hl : l.length = n := by have := h.1; omega
    rcases h.2 with ⟨_, he⟩ | ⟨g, cap, cur, hv, hbg, hh, hnc, _, hsz, htake⟩
    · omega
    · have hA : A = some ⟨g, 0, none⟩ := by injection hv
      refine .inr ⟨g, hA, hbg, (Array.getElem?_eq_some_iff.1 hh).1, fun j hj => ?_, fun j hj => ?_⟩
      · rw [cell_of_row w g j cur e (0, 0) hh, ← htake, List.getElem?_take, if_pos (by omega)]
        simp
      · simp [World.frozen?, hh]
theorem own_len {w : World} {base : Nat} {e : TypeId} {v : Value} {n : Nat} {l : List Value} (h : w.ownsRow base e 1 v n l) : ∃ A c, v = .slice A n c ∧ n ≤ c ∧ c ≤ maxLen ∧ l.length = n := by
  have hl := h.1
  rcases h.2 with ⟨hv, hn⟩ | ⟨g, cap, cur, hv, hbg, hh, hnc, hm, hsz, htake⟩
  · exact ⟨none, 0, by rw [hv, hn], by omega, by simp [maxLen], by omega⟩
  · exact ⟨some ⟨g, 0, none⟩, cap, hv, hnc, hm, by omega⟩
/-- The block of a row that is not empty. -/
theorem OwnS.block {B : Nat} {w : World} {A : Option Addr} {l : List Value} (h : OwnS B w A l) (h0 : 0 < l.length) : ∃ g, A = some ⟨g, 0, none⟩ ∧ B ≤ g ∧ g < w.heap.size ∧ (∀ j, j < l.length → w.cell? ⟨g, j, none⟩ = l[j]?) ∧ ∀ j, j < l.length → w.frozen? ⟨g, j, none⟩ = false := by
  rcases h with h | h
  · subst h; simp at h0
  · exact h
theorem RdS.block {w : World} {A : Option Addr} {l : List Value} (h : RdS w A l) (h0 : 0 < l.length) : ∃ b off, A = some ⟨b, off, none⟩ ∧ b < w.heap.size ∧ ∀ j, j < l.length → w.cell? ⟨b, off + j, none⟩ = l[j]? := by
  rcases h with h | h
  · subst h; simp at h0
  · exact h
/-- A prefix of a row. -/
theorem OwnS.take {B : Nat} {w : World} {A : Option Addr} {l : List Value} (h : OwnS B w A l) (k : Nat) : OwnS B w A (l.take k) := by
  rcases h with h | ⟨g, ha, hB, hs, hc, hf⟩
  · exact .inl (by rw [h, List.take_nil])
  · refine .inr ⟨g, ha, hB, hs, fun j hj => ?_, fun j hj => ?_⟩
    · rw [List.length_take] at hj
      rw [hc j (by omega), List.getElem?_take, if_pos (by omega)]
    · rw [List.length_take] at hj
      exact hf j (by omega)
theorem OwnS.more {B B' : Nat} {w : World} {A : Option Addr} {l : List Value} (h : OwnS B w A l) (hB : B' ≤ B) : OwnS B' w A l := by
  rcases h with h | ⟨g, ha, hb, hs, hc, hf⟩
  · exact .inl h
  · exact .inr ⟨g, ha, by omega, hs, hc, hf⟩

/-- The strings of a list, as values. -/
def vs (l : List ByteArray) : List Value := l.map Value.string
theorem vs_length (l : List ByteArray) : (vs l).length = l.length := by simp [vs]
theorem vs_get {l : List ByteArray} {k : Nat} (h : k < l.length) : (vs l)[k]? = some (.string l[k]) := by simp [vs, h]
theorem vs_append (l m : List ByteArray) : vs (l ++ m) = vs l ++ vs m := by simp [vs]
theorem vs_take (l : List ByteArray) (k : Nat) : vs (l.take k) = (vs l).take k := by simp [vs]
/-- The first k elements agree. -/
def AgreeTo (l m : List ByteArray) (k : Nat) : Prop := ∀ j, j < k → l[j]? = m[j]?
theorem AgreeTo.zero (l m : List ByteArray) : AgreeTo l m 0 := fun _ h => absurd h (by omega)
theorem AgreeTo.succ {l m : List ByteArray} {k : Nat} (h : AgreeTo l m k) (h1 : l[k]? = m[k]?) : AgreeTo l m (k + 1) := fun j hj => by
  rcases Nat.lt_or_ge j k with h2 | h2
  · exact h j h2
  · obtain rfl : j = k := by omega
    exact h1
theorem AgreeTo.all {l m : List ByteArray} (h : AgreeTo l m l.length) (hl : l.length = m.length) : l = m := by
  apply List.ext_getElem?
  intro j
  rcases Nat.lt_or_ge j l.length with h2 | h2
  · exact h j h2
  · rw [List.getElem?_eq_none h2, List.getElem?_eq_none (by omega)]

theorem grown_trans_below {w w1 w2 : World} {row : Option Nat} (h : w.grownBy w1 row) (k : Below w1.heap.size w1 w2) : w.grownBy w2 row :=
  ⟨k.os.trans h.os, k.tape.trans h.tape, k.output.trans h.output, Nat.le_trans h.size k.size, fun i hi hne => (k.block i (Nat.lt_of_lt_of_le hi h.size)).trans (h.block i hi hne)⟩
theorem grown_setCell {w w1 : World} {g : Nat} (h : w.grownBy w1 (some g)) (o : Nat) (u : Value) : w.grownBy (w1.setCell ⟨g, o, none⟩ u) (some g) :=
  ⟨h.os, h.tape, h.output, by simpa [World.setCell] using h.size, fun i hi hne => (Below.heap_setCell w1 ⟨g, o, none⟩ u i (by rintro rfl; exact hne rfl)).trans (h.block i hi hne)⟩
theorem grown_refl (w : World) (row : Option Nat) : w.grownBy w row := ⟨rfl, rfl, rfl, Nat.le_refl _, fun _ _ _ => rfl⟩
/-- Only blocks from B on have turned. -/
theorem below_of_grown {B : Nat} {w w' : World} {row : Option Nat} (h : w.grownBy w' row) (hB : B ≤ w.heap.size) (hr : ∀ g, row = some g → B ≤ g) : Below B w w' := (Below.refl _ _).grown h hB hr

/-- The block that a row of n places at A lies in. -/
def rowOf (n : Nat) (A : Option Addr) : Option Nat := if n = 0 then none else A.map (·.block)
/-- A row of n places at A while its first i places are being written: what f says stands there; the others hold something; all may be written. -/
def Filling (B : Nat) (w wr : World) (A : Option Addr) (n : Nat) (f : Nat → Value) (i : Nat) : Prop :=
  w.grownBy wr (rowOf n A) ∧ (n = 0 ∨ ∃ g, A = some ⟨g, 0, none⟩ ∧ B ≤ g ∧ g < wr.heap.size ∧ (∀ j, j < n → wr.frozen? ⟨g, j, none⟩ = false) ∧ (∀ j, j < i → wr.cell? ⟨g, j, none⟩ = some (f j)) ∧ ∀ j, j < n → ∃ u, wr.cell? ⟨g, j, none⟩ = some u)
theorem Filling.start {B : Nat} {w : World} {A : Option Addr} {l : List Value} {n : Nat} (h : OwnS B w A l) (hl : l.length = n) (f : Nat → Value) : Filling B w w A n f 0 := by
  refine ⟨grown_refl _ _, ?_⟩
  rcases h with h | ⟨g, ha, hB, hs, hc, hf⟩
  · left; subst h; simpa using hl.symm
  · refine .inr ⟨g, ha, hB, hs, fun j hj => hf j (by omega), fun j hj => absurd hj (by omega), fun j hj => ⟨l[j]'(by omega), ?_⟩⟩
    rw [hc j (by omega), List.getElem?_eq_getElem (by omega)]
theorem Filling.below {B : Nat} {w wr w1 : World} {A : Option Addr} {n i : Nat} {f : Nat → Value} (h : Filling B w wr A n f i) (hb : Below wr.heap.size wr w1) : Filling B w w1 A n f i := by
  obtain ⟨hg, hr⟩ := h
  refine ⟨grown_trans_below hg hb, ?_⟩
  rcases hr with hr | ⟨g, ha, hB, hs, hf, hc, he⟩
  · exact .inl hr
  · refine .inr ⟨g, ha, hB, Nat.lt_of_lt_of_le hs hb.size, fun j hj => ?_, fun j hj => ?_, fun j hj => ?_⟩
    · rw [hb.frozen (p := ⟨g, j, none⟩) hs]; exact hf j hj
    · rw [hb.cell (p := ⟨g, j, none⟩) hs]; exact hc j hj
    · rw [hb.cell (p := ⟨g, j, none⟩) hs]; exact he j hj
theorem Filling.at_ {B : Nat} {w wr : World} {A : Option Addr} {n i : Nat} {f : Nat → Value} (h : Filling B w wr A n f i) (hi : i < n) : ∃ g u, A = some ⟨g, 0, none⟩ ∧ g < wr.heap.size ∧ wr.cell? ⟨g, i, none⟩ = some u ∧ wr.frozen? ⟨g, i, none⟩ = false := by
  obtain ⟨_, hr⟩ := h
  rcases hr with hr | ⟨g, ha, _, hs, hf, _, he⟩
  · omega
  · obtain ⟨u, hu⟩ := he i hi
    exact ⟨g, u, ha, hs, hu, hf i hi⟩
theorem Filling.step {B : Nat} {w wr : World} {g : Nat} {n i : Nat} {f : Nat → Value} (h : Filling B w wr (some ⟨g, 0, none⟩) n f i) (hi : i < n) {x : Value} (hx : x = f i) : Filling B w (wr.setCell ⟨g, i, none⟩ x) (some ⟨g, 0, none⟩) n f (i + 1) := by
  obtain ⟨hg, hr⟩ := h
  have hrow : rowOf n (some ⟨g, 0, none⟩) = some g := by rw [rowOf, if_neg (by omega)]; rfl
  rw [hrow] at hg
  refine ⟨by rw [hrow]; exact grown_setCell hg i x, ?_⟩
  rcases hr with hr | ⟨g', ha, hB, hs, hf, hc, he⟩
  · omega
  · obtain rfl : g = g' := by injection ha with e; injection e
    have hsome : ∀ j, j < n → ∀ u, wr.cell? ⟨g, j, none⟩ = some u → (wr.setCell ⟨g, i, none⟩ x).cell? ⟨g, j, none⟩ = some (if j = i then x else u) := by
      intro j hj u hu
      by_cases e : j = i
      · subst e
        rw [if_pos rfl]
        exact World.cell?_setCell_same wr ⟨g, j, none⟩ x hu
      · rw [if_neg e, World.cell?_setCell_other wr ⟨g, i, none⟩ ⟨g, j, none⟩ x (by intro q; injection q with _ q2; exact e q2.symm)]
        exact hu
    refine .inr ⟨g, rfl, hB, by simpa [World.setCell] using hs, fun j hj => ?_, fun j hj => ?_, fun j hj => ?_⟩
    · rw [World.frozen?_setCell]; exact hf j hj
    · by_cases e : j = i
      · subst e
        obtain ⟨u, hu⟩ := he j hi
        rw [hsome j hi u hu, if_pos rfl, hx]
      · rw [hsome j (by omega) _ (hc j (by omega)), if_neg e]
    · obtain ⟨u, hu⟩ := he j hj
      exact ⟨_, hsome j hj u hu⟩
theorem Filling.done {B : Nat} {w wr : World} {A : Option Addr} {n : Nat} {f : Nat → Value} (h : Filling B w wr A n f n) : OwnS B wr A ((List.range n).map f) := by
  obtain ⟨_, hr⟩ := h
  rcases hr with hr | ⟨g, ha, hB, hs, hf, hc, he⟩
  · left; subst hr; rfl
  · exact .inr ⟨g, ha, hB, hs, fun j hj => by
      have hj' : j < n := by simpa using hj
      rw [hc j hj']; simp [hj'], fun j hj => hf j (by simpa using hj)⟩

theorem OwnS.row {B : Nat} {w : World} {A : Option Addr} {l : List Value} (h : OwnS B w A l) : ∀ g, rowOf l.length A = some g → B ≤ g := by
  intro g hg
  unfold rowOf at hg
  rcases h with h | ⟨g', ha, hB, _⟩
  · subst h; simp at hg
  · subst ha
    split at hg
    · cases hg
    · simp at hg; omega
end Go.Proofs.YtmmgcdfifcbabaaGreatDoor
