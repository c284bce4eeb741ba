/-
  A function's own variables in memory: what each block holds, kept by calls, by new blocks and by writes into rows.
-/
import Derived.Test.YtmmgcdfifcbabaaGreatDoorBigH
namespace Go.Proofs.YtmmgcdfifcbabaaGreatDoor
open Go.ChangeShapes Go.WideShapes Go.ChangeAt Go.RowKit
open Go.ChangeMaps (open_string shut_string)
set_option linter.unusedVariables false
set_option linter.unusedSimpArgs false
set_option maxRecDepth 4000

/-- Block g holds the values vs. -/
def Cells (w : World) (g : Nat) (vs : List Value) : Prop := ∀ j v, vs[j]? = some v → w.cell? ⟨g, j, none⟩ = some v
/-- The variables, each a block and what it holds. -/
def Fr (w : World) (L : List (Nat × List Value)) : Prop := ∀ x, x ∈ L → Cells w x.1 x.2
theorem Cells.below {W W' : World} {g : Nat} {vs : List Value} (h : Cells W g vs) (hb : Below W.heap.size W W') : Cells W' g vs := fun j v hj => by
  have h1 := h j v hj
  rw [hb.cell (p := ⟨g, j, none⟩) (World.block_lt_of_cell? W _ h1)]; exact h1
theorem Cells.grown {W W' : World} {g : Nat} {vs : List Value} {row : Option Nat} (h : Cells W g vs) (hg : W.grownBy W' row) (hne : ∀ k, row = some k → k ≠ g) : Cells W' g vs := fun j v hj => by
  have h1 := h j v hj
  have hl := World.block_lt_of_cell? W _ h1
  have hk : W'.heap[g]? = W.heap[g]? := hg.block g hl (fun e => hne g e.symm rfl)
  rw [World.cell?_of_block (w := W) (a := ⟨g, j, none⟩) hk]; exact h1
theorem Fr.nil (w : World) : Fr w [] := fun _ h => by cases h
theorem Fr.below {W W' : World} {L : List (Nat × List Value)} (h : Fr W L) (hb : Below W.heap.size W W') : Fr W' L := fun x hx => (h x hx).below hb
theorem Fr.grown {W W' : World} {L : List (Nat × List Value)} {row : Option Nat} (h : Fr W L) (hg : W.grownBy W' row) (hne : ∀ k, row = some k → ∀ x, x ∈ L → k ≠ x.1) : Fr W' L := fun x hx => (h x hx).grown hg (fun k hk => hne k hk x hx)
theorem Fr.cons {W : World} {L : List (Nat × List Value)} {g : Nat} {vs : List Value} (h1 : Cells W g vs) (h : Fr W L) : Fr W ((g, vs) :: L) := fun x hx => by
  rcases List.mem_cons.1 hx with e | e
  · subst e; exact h1
  · exact h x e
theorem cells_new (w : World) (T : TypeId) (vs : List Value) : Cells (w.alloc (.cells vs.toArray T)) w.heap.size vs := fun j v hj => by
  have h := cell_of_row _ _ j _ _ (0, 0) (heap_alloc_new w (.cells vs.toArray T))
  rw [h]
  simpa using hj
/-- A new variable. -/
theorem Fr.alloc {w : World} {L : List (Nat × List Value)} (h : Fr w L) (T : TypeId) (vs : List Value) : Fr (w.alloc (.cells vs.toArray T)) ((w.heap.size, vs) :: L) :=
  Fr.cons (cells_new w T vs) (h.below (ba1 w _))
theorem Fr.at0 {w : World} {L : List (Nat × List Value)} {g : Nat} {vs : List Value} (h : Fr w ((g, vs) :: L)) : Cells w g vs := h (g, vs) (by simp)
theorem Fr.tail {w : World} {L : List (Nat × List Value)} {x : Nat × List Value} (h : Fr w (x :: L)) : Fr w L := fun y hy => h y (by simp [hy])
theorem Fr.get {w : World} {L : List (Nat × List Value)} (h : Fr w L) (i j : Nat) {g : Nat} {vs : List Value} {v : Value} (hi : L[i]? = some (g, vs)) (hj : vs[j]? = some v) : w.cell? ⟨g, j, none⟩ = some v :=
  h (g, vs) (List.mem_of_getElem? hi) j v hj

/-- Two variables of two cells that a region reads. -/
theorem heldF {b1 o1 b2 o2 b3 o3 b4 o4 : Nat} {v1 v2 v3 v4 : Value} {W W' w : World} (h1 : W.cell? ⟨b1, o1, none⟩ = some v1) (h2 : W.cell? ⟨b2, o2, none⟩ = some v2) (h3 : W.cell? ⟨b3, o3, none⟩ = some v3) (h4 : W.cell? ⟨b4, o4, none⟩ = some v4) (hw : Below w.heap.size w W) (hb : Below W.heap.size W W') :
    W'.cell? ⟨b1, o1, none⟩ = some v1 ∧ W'.cell? ⟨b2, o2, none⟩ = some v2 ∧ W'.cell? ⟨b3, o3, none⟩ = some v3 ∧ W'.cell? ⟨b4, o4, none⟩ = some v4 ∧ Below w.heap.size w W' :=
  ⟨by rw [hb.cell (p := ⟨b1, o1, none⟩) (World.block_lt_of_cell? W _ h1)]; exact h1, by rw [hb.cell (p := ⟨b2, o2, none⟩) (World.block_lt_of_cell? W _ h2)]; exact h2, by rw [hb.cell (p := ⟨b3, o3, none⟩) (World.block_lt_of_cell? W _ h3)]; exact h3, by rw [hb.cell (p := ⟨b4, o4, none⟩) (World.block_lt_of_cell? W _ h4)]; exact h4, bt hw hb⟩
/-- Two variables of two cells and a row that a region reads. -/
theorem keptE {B b1 o1 b2 o2 b3 o3 b4 o4 : Nat} {v1 v2 v3 v4 : Value} {W W' w : World} {A : Option Addr} {l : List Value} (h1 : W.cell? ⟨b1, o1, none⟩ = some v1) (h2 : W.cell? ⟨b2, o2, none⟩ = some v2) (h3 : W.cell? ⟨b3, o3, none⟩ = some v3) (h4 : W.cell? ⟨b4, o4, none⟩ = some v4) (ho : OwnS B W A l) (hw : Below w.heap.size w W) (hb : Below W.heap.size W W') :
    W'.cell? ⟨b1, o1, none⟩ = some v1 ∧ W'.cell? ⟨b2, o2, none⟩ = some v2 ∧ W'.cell? ⟨b3, o3, none⟩ = some v3 ∧ W'.cell? ⟨b4, o4, none⟩ = some v4 ∧ OwnS B W' A l ∧ Below w.heap.size w W' :=
  ⟨by rw [hb.cell (p := ⟨b1, o1, none⟩) (World.block_lt_of_cell? W _ h1)]; exact h1, by rw [hb.cell (p := ⟨b2, o2, none⟩) (World.block_lt_of_cell? W _ h2)]; exact h2, by rw [hb.cell (p := ⟨b3, o3, none⟩) (World.block_lt_of_cell? W _ h3)]; exact h3, by rw [hb.cell (p := ⟨b4, o4, none⟩) (World.block_lt_of_cell? W _ h4)]; exact h4, ho.below hb, bt hw hb⟩
/-- What a drawn statement leaves that lays a struct of a sign and a slice into a new variable. -/
def CutB (W0 : World) (s : Bool) (L : List Int) (v : Value) (wx : World) : Prop :=
  ∃ gv A c, v = .pointer (some ⟨gv, 0, none⟩) ∧ W0.heap.size ≤ gv ∧ gv < wx.heap.size ∧ Cells wx gv [.bool s, .slice A L.length c] ∧ OwnS W0.heap.size wx A (vi L) ∧ Below W0.heap.size W0 wx
theorem cells_put2 {W : World} {g : Nat} {u u' x y : Value} (h1 : W.cell? ⟨g, 0, none⟩ = some x) (h2 : W.cell? ⟨g, 1, none⟩ = some y) : Cells ((W.setCell ⟨g, 0, none⟩ u).setCell ⟨g, 1, none⟩ u') g [u, u'] := fun j v hj => by
  rcases j with _ | _ | j
  · obtain rfl : u = v := by simpa using hj
    rw [World.cell?_setCell_other _ ⟨g, 1, none⟩ ⟨g, 0, none⟩ u' (by intro q; injection q with _ q2; cases q2)]
    exact World.cell?_setCell_same W ⟨g, 0, none⟩ u h1
  · obtain rfl : u' = v := by simpa using hj
    have h3 : (W.setCell ⟨g, 0, none⟩ u).cell? ⟨g, 1, none⟩ = some y := by
      rw [World.cell?_setCell_other _ ⟨g, 0, none⟩ ⟨g, 1, none⟩ u (by intro q; injection q with _ q2; cases q2)]
      exact h2
    exact World.cell?_setCell_same _ ⟨g, 1, none⟩ u' h3
  · simp at hj
/-- Where a row lies. -/
def InR (n : Nat) (A : Option Addr) (lo hi : Nat) : Prop := ∀ g, rowOf n A = some g → lo ≤ g ∧ g < hi
theorem OwnS.inR {B : Nat} {W : World} {A : Option Addr} {l : List Value} {n : Nat} (h : OwnS B W A l) (hn : l.length = n) : InR n A B W.heap.size := fun g hg => by
  refine ⟨h.row g (by rw [hn]; exact hg), ?_⟩
  rcases h with h | ⟨g', ha, hB, hs, _⟩
  · subst h; subst hn; simp [rowOf] at hg
  · subst ha
    unfold rowOf at hg
    split at hg
    · cases hg
    · simp at hg; omega
theorem OwnS.apartR {B n k lo hi lo' hi' : Nat} {w w' : World} {A A' : Option Addr} {l : List Value} (h : OwnS B w A l) (hk : l.length = k) (hr : InR k A lo hi) (hr' : InR n A' lo' hi') (hg : w.grownBy w' (rowOf n A')) (hd : hi ≤ lo' ∨ hi' ≤ lo) : OwnS B w' A l := by
  by_cases h0 : l.length = 0
  · exact .inl (List.eq_nil_of_length_eq_zero h0)
  · obtain ⟨g, ha, hB, hs, hc, hf⟩ := h.block (by omega)
    have hrg : rowOf k A = some g := by unfold rowOf; rw [if_neg (by omega), ha]; rfl
    have h1 := hr g hrg
    have hkk : w'.heap[g]? = w.heap[g]? := hg.block g hs (fun e => by have h2 := hr' g e.symm; omega)
    refine .inr ⟨g, ha, hB, Nat.lt_of_lt_of_le hs hg.size, fun j hj => ?_, fun j hj => ?_⟩
    · rw [World.cell?_of_block (w := w) (a := ⟨g, j, none⟩) hkk]; exact hc j hj
    · rw [World.frozen?_of_block (w := w) (a := ⟨g, j, none⟩) hkk]; exact hf j hj
theorem Fr.grownR {W W' : World} {L : List (Nat × List Value)} {n lo hi : Nat} {A : Option Addr} (h : Fr W L) (hr : InR n A lo hi) (hg : W.grownBy W' (rowOf n A)) (hne : ∀ x, x ∈ L → x.1 < lo ∨ hi ≤ x.1) : Fr W' L :=
  h.grown hg (fun k hk x hx => by have h1 := hr k hk; have h2 := hne x hx; omega)
theorem below_grownR {w W W' : World} {n lo hi : Nat} {A : Option Addr} (h : Below w.heap.size w W) (hr : InR n A lo hi) (hg : W.grownBy W' (rowOf n A)) (hlo : w.heap.size ≤ lo) : Below w.heap.size w W' :=
  h.trans (below_of_grown hg h.size (fun k hk => by have h1 := hr k hk; omega))

end Go.Proofs.YtmmgcdfifcbabaaGreatDoor
