/-
  Values with several rows: what may be read (Rds), what the call made itself (Owns), within which blocks; what a call may have turned (Turn). Plain lemmas on worlds, for every type at once.
-/
import Derived.Test.YtennekieiioilaaGreatPkD
namespace Go.Proofs.YtennekieiioilaaGreat
open Go.ChangeShapes Go.WideShapes Go.ChangeAt Go.RowKit
open Go.ChangeMaps (open_string shut_string)
set_option linter.unusedVariables false
set_option linter.unusedSimpArgs false
set_option maxRecDepth 4000

/-- Of what stood only blocks from lo up to hi may have turned; more may have been made. -/
def Turn (lo hi : Nat) (w w' : World) : Prop :=
  w'.os = w.os ∧ w'.tape = w.tape ∧ w'.output = w.output ∧ w.heap.size ≤ w'.heap.size ∧ ∀ k, k < w.heap.size → (k < lo ∨ hi ≤ k) → w'.heap[k]? = w.heap[k]?
theorem Turn.size {lo hi : Nat} {w w' : World} (h : Turn lo hi w w') : w.heap.size ≤ w'.heap.size := h.2.2.2.1
theorem Turn.block {lo hi k : Nat} {w w' : World} (h : Turn lo hi w w') (hk : k < w.heap.size) (hd : k < lo ∨ hi ≤ k) : w'.heap[k]? = w.heap[k]? := h.2.2.2.2 k hk hd
theorem Turn.of_below {lo hi : Nat} {w w' : World} (h : Below w.heap.size w w') : Turn lo hi w w' := ⟨h.os, h.tape, h.output, h.size, fun k hk _ => h.block k hk⟩
theorem Turn.trans {lo hi : Nat} {a b c : World} (h : Turn lo hi a b) (k : Turn lo hi b c) : Turn lo hi a c :=
  ⟨k.1.trans h.1, k.2.1.trans h.2.1, k.2.2.1.trans h.2.2.1, Nat.le_trans h.size k.size, fun i hi' hd => (k.block (Nat.lt_of_lt_of_le hi' h.size) hd).trans (h.block hi' hd)⟩
theorem Turn.wide {lo hi lo' hi' : Nat} {w w' : World} (h : Turn lo hi w w') (h1 : lo' ≤ lo) (h2 : hi ≤ hi') : Turn lo' hi' w w' := ⟨h.1, h.2.1, h.2.2.1, h.2.2.2.1, fun k hk hd => h.block hk (by omega)⟩
theorem Turn.of_grown {lo hi n : Nat} {w w' : World} {A : Option Addr} (hg : w.grownBy w' (rowOf n A)) (hr : InR n A lo hi) : Turn lo hi w w' :=
  ⟨hg.os, hg.tape, hg.output, hg.size, fun k hk hd => hg.block k hk (fun e => by have := hr k e.symm; omega)⟩
theorem Turn.below {B lo hi : Nat} {w0 w w' : World} (kb : Below B w0 w) (h : Turn lo hi w w') (h1 : B ≤ lo) (h2 : B ≤ w.heap.size) : Below B w0 w' :=
  kb.trans ⟨h.1, h.2.1, h.2.2.1, h.size, fun k hk => h.block (by omega) (.inl (by omega))⟩
theorem Turn.blk {lo hi g : Nat} {w w' : World} {o : Obj} (h : Turn lo hi w w') (P : w.heap[g]? = some o) (hd : g < lo ∨ hi ≤ g) : w'.heap[g]? = some o := (h.block (rblk_lt P) hd).trans P
theorem Cells.turn {lo hi g : Nat} {w w' : World} {vs : List Value} (h : Cells w g vs) (t : Turn lo hi w w') (hd : g < lo ∨ hi ≤ g) : Cells w' g vs := fun j v hj => by
  have h1 := h j v hj
  have hl := World.block_lt_of_cell? w _ h1
  rw [World.cell?_of_block (w := w) (a := ⟨g, j, none⟩) (t.block hl hd)]; exact h1
theorem Fr.turn {lo hi : Nat} {w w' : World} {L : List (Nat × List Value)} (h : Fr w L) (t : Turn lo hi w w') (hd : ∀ x, x ∈ L → x.1 < lo ∨ hi ≤ x.1) : Fr w' L := fun x hx => (h x hx).turn t (hd x hx)
theorem OwnS.turn {B lo hi lo' hi' : Nat} {w w' : World} {A : Option Addr} {l : List Value} (h : OwnS B w A l) (hr : InR l.length A lo hi) (t : Turn lo' hi' w w') (hd : hi ≤ lo' ∨ hi' ≤ lo) : OwnS B w' A l := by
  by_cases h0 : l.length = 0
  · exact .inl (List.eq_nil_of_length_eq_zero h0)
  · obtain ⟨g, ha, hB, hs, hc, hf⟩ := h.block (by omega)
    have hrg : rowOf l.length A = some g := by unfold rowOf; rw [if_neg (by omega), ha]; rfl
    have h1 := hr g hrg
    have hkk : w'.heap[g]? = w.heap[g]? := t.block hs (by omega)
    refine .inr ⟨g, ha, hB, Nat.lt_of_lt_of_le hs t.size, fun j hj => ?_, fun j hj => ?_⟩
    · rw [World.cell?_of_block (w := w) (a := ⟨g, j, none⟩) hkk]; exact hc j hj
    · rw [World.frozen?_of_block (w := w) (a := ⟨g, j, none⟩) hkk]; exact hf j hj

/-- Rows that may be read. -/
def Rds (w : World) (rs : List (Option Addr × List Value)) : Prop := ∀ r, r ∈ rs → RdS w r.1 r.2
/-- Rows of the call's own, in blocks from lo up to hi. -/
def Owns (lo hi : Nat) (w : World) (rs : List (Option Addr × List Value)) : Prop := ∀ r, r ∈ rs → OwnS lo w r.1 r.2 ∧ InR r.2.length r.1 lo hi
/-- No two of the rows share a block. -/
def Aparts (rs : List (Option Addr × List Value)) : Prop := rs.Pairwise (fun r s => Apart r.2.length r.1 s.2.length s.1)
theorem Rds.below {w w' : World} {rs : List (Option Addr × List Value)} (h : Rds w rs) (hb : Below w.heap.size w w') : Rds w' rs := fun r hr => (h r hr).below hb
theorem Owns.rds {lo hi : Nat} {w : World} {rs : List (Option Addr × List Value)} (h : Owns lo hi w rs) : Rds w rs := fun r hr => (h r hr).1.rd
theorem Owns.below {lo hi : Nat} {w w' : World} {rs : List (Option Addr × List Value)} (h : Owns lo hi w rs) (hb : Below w.heap.size w w') : Owns lo hi w' rs := fun r hr => ⟨(h r hr).1.below hb, (h r hr).2⟩
theorem Owns.drew {lo hi : Nat} {w : World} {rs : List (Option Addr × List Value)} (h : Owns lo hi w rs) : Owns lo hi w.drew rs := h.below ((Below.refl _ _).drew)
theorem Owns.turn {lo hi lo' hi' : Nat} {w w' : World} {rs : List (Option Addr × List Value)} (h : Owns lo hi w rs) (t : Turn lo' hi' w w') (hd : hi ≤ lo' ∨ hi' ≤ lo) : Owns lo hi w' rs := fun r hr => ⟨(h r hr).1.turn (h r hr).2 t hd, (h r hr).2⟩
theorem Owns.put {lo hi b o : Nat} {w : World} {rs : List (Option Addr × List Value)} (h : Owns lo hi w rs) (hb : b < lo ∨ hi ≤ b) (v : Value) : Owns lo hi (w.setCell ⟨b, o, none⟩ v) rs :=
  h.turn (lo' := b) (hi' := b + 1) ⟨rfl, rfl, rfl, by simp [World.setCell], fun k hk hd => Below.heap_setCell w ⟨b, o, none⟩ v k (by show k ≠ b; omega)⟩ (by omega)
theorem Owns.wide {lo hi lo' hi' : Nat} {w : World} {rs : List (Option Addr × List Value)} (h : Owns lo hi w rs) (h1 : lo' ≤ lo) (h2 : hi ≤ hi') : Owns lo' hi' w rs := fun r hr => ⟨(h r hr).1.more h1, (h r hr).2.wide h1 h2⟩
theorem Rds.cons {w : World} {A : Option Addr} {l : List Value} {rs : List (Option Addr × List Value)} (h : RdS w A l) (hs : Rds w rs) : Rds w ((A, l) :: rs) := fun r hr => by
  rcases List.mem_cons.1 hr with e | e
  · subst e; exact h
  · exact hs r e
theorem Rds.nil (w : World) : Rds w [] := fun _ h => by cases h
theorem Rds.hd {w : World} {A : Option Addr} {l : List Value} {rs : List (Option Addr × List Value)} (h : Rds w ((A, l) :: rs)) : RdS w A l := h (A, l) (by simp)
theorem Rds.tl {w : World} {x : Option Addr × List Value} {rs : List (Option Addr × List Value)} (h : Rds w (x :: rs)) : Rds w rs := fun r hr => h r (by simp [hr])
theorem Rds.app {w : World} {rs ss : List (Option Addr × List Value)} (h : Rds w rs) (h' : Rds w ss) : Rds w (rs ++ ss) := fun r hr => by
  rcases List.mem_append.1 hr with e | e
  · exact h r e
  · exact h' r e
theorem Owns.app {lo hi : Nat} {w : World} {rs ss : List (Option Addr × List Value)} (h : Owns lo hi w rs) (h' : Owns lo hi w ss) : Owns lo hi w (rs ++ ss) := fun r hr => by
  rcases List.mem_append.1 hr with e | e
  · exact h r e
  · exact h' r e
theorem Owns.nil (lo hi : Nat) (w : World) : Owns lo hi w [] := fun _ h => by cases h
theorem Owns.cons {lo hi : Nat} {w : World} {A : Option Addr} {l : List Value} {rs : List (Option Addr × List Value)} (h : OwnS lo w A l) (hi' : InR l.length A lo hi) (hs : Owns lo hi w rs) : Owns lo hi w ((A, l) :: rs) := fun r hr => by
  rcases List.mem_cons.1 hr with e | e
  · subst e; exact ⟨h, hi'⟩
  · exact hs r e
theorem Owns.hd {lo hi : Nat} {w : World} {A : Option Addr} {l : List Value} {rs : List (Option Addr × List Value)} (h : Owns lo hi w ((A, l) :: rs)) : OwnS lo w A l := (h (A, l) (by simp)).1
theorem Owns.hr {lo hi : Nat} {w : World} {A : Option Addr} {l : List Value} {rs : List (Option Addr × List Value)} (h : Owns lo hi w ((A, l) :: rs)) : InR l.length A lo hi := (h (A, l) (by simp)).2
theorem Owns.tl {lo hi : Nat} {w : World} {x : Option Addr × List Value} {rs : List (Option Addr × List Value)} (h : Owns lo hi w (x :: rs)) : Owns lo hi w rs := fun r hr => h r (by simp [hr])
/-- Rows in two ranges one behind the other are apart. -/
theorem Aparts.app {lo mid hi : Nat} {w w' : World} {rs ss : List (Option Addr × List Value)} (h : Aparts rs) (h' : Aparts ss) (o : Owns lo mid w rs) (o' : Owns mid hi w' ss) : Aparts (rs ++ ss) :=
  List.pairwise_append.2 ⟨h, h', fun r hr s hs => (o r hr).2.apart (o' s hs).2 (.inl (Nat.le_refl _))⟩
theorem Aparts.nil : Aparts [] := List.Pairwise.nil
theorem Aparts.one (r : Option Addr × List Value) : Aparts [r] := List.pairwise_singleton _ _
theorem Aparts.two {A D : Option Addr} {l m : List Value} (h : Apart l.length A m.length D) : Aparts [(A, l), (D, m)] :=
  List.Pairwise.cons (fun s hs => by rw [List.mem_singleton] at hs; subst hs; exact h) (Aparts.one _)
theorem Aparts.get2 {A D : Option Addr} {l m : List Value} {rs : List (Option Addr × List Value)} (h : Aparts ((A, l) :: (D, m) :: rs)) : Apart l.length A m.length D := (List.pairwise_cons.1 h).1 (D, m) (List.mem_cons_self ..)
theorem Aparts.tl {r : Option Addr × List Value} {rs : List (Option Addr × List Value)} (h : Aparts (r :: rs)) : Aparts rs := (List.pairwise_cons.1 h).2
/-- A row that stays where only rows apart from it are written. -/
theorem OwnS.grown2 {B : Nat} {w w' : World} {n k : Nat} {A D E : Option Addr} {l : List Value} (h : OwnS B w E l) (h1 : Apart l.length E n A) (h2 : Apart l.length E k D) (hg : Grown2 w w' (rowOf n A) (rowOf k D)) : OwnS B w' E l := by
  obtain ⟨w1, g1, g2⟩ := hg
  exact (h.apartN rfl g1 h1).apartN rfl g2 h2
theorem Turn.of_grown2 {lo hi n k : Nat} {w w' : World} {A D : Option Addr} (hg : Grown2 w w' (rowOf n A) (rowOf k D)) (h1 : InR n A lo hi) (h2 : InR k D lo hi) : Turn lo hi w w' := by
  obtain ⟨w1, g1, g2⟩ := hg
  exact (Turn.of_grown g1 h1).trans (Turn.of_grown g2 h2)
/-- A fraction's two rows, made by a call. -/
theorem owns2 {lo hi : Nat} {w : World} {A D : Option Addr} {l m : List Value} (h : OwnS lo w A l) (h' : OwnS lo w D m) (hz : w.heap.size ≤ hi) : Owns lo hi w [(A, l), (D, m)] :=
  Owns.cons h ((h.inR rfl).wide (Nat.le_refl _) hz) (Owns.cons h' ((h'.inR rfl).wide (Nat.le_refl _) hz) (Owns.nil _ _ _))
theorem rds2 {w : World} {A D : Option Addr} {l m : List Value} (h : RdS w A l) (h' : RdS w D m) : Rds w [(A, l), (D, m)] := Rds.cons h (Rds.cons h' (Rds.nil _))
theorem rds4 {w : World} {A D A' D' : Option Addr} {l m l' m' : List Value} (h : RdS w A l) (h' : RdS w D m) (k : RdS w A' l') (k' : RdS w D' m') : Rds w [(A, l), (D, m), (A', l'), (D', m')] := Rds.cons h (Rds.cons h' (rds2 k k'))
end Go.Proofs.YtennekieiioilaaGreat
