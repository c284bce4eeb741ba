/-
  Values with several rows: what may be read (Rds), what the call made itself (Owns), within which blocks; what a call may have turned (Turn). Plain lemmas on worlds, for every type at once.
-/
import Derived.Test.YtppdholccpgcpaaGreatPkD
namespace Go.Proofs.YtppdholccpgcpaaGreat
open Go.ChangeShapes Go.WideShapes Go.ChangeAt Go.RowKit
set_option linter.unusedVariables false
set_option linter.unusedSimpArgs false
set_option maxRecDepth 4000
def Turn (lo hi : Nat) (w w' : World) : Prop :=
  w'.os = w.os ∧ w'.tape = w.tape ∧ w'.output = w.output ∧ w.heap.size ≤ w'.heap.size ∧ ∀ k, k < w.heap.size → (k < lo ∨ hi ≤ k) → w'.heap[k]? = w.heap[k]?
theorem Turn.size {lo hi : Nat} {w w' : World} (h : Turn lo hi w w') : w.heap.size ≤ w'.heap.size := h.2.2.2.1
theorem Turn.block {lo hi k : Nat} {w w' : World} (h : Turn lo hi w w') (hk : k < w.heap.size) (hd : k < lo ∨ hi ≤ k) : w'.heap[k]? = w.heap[k]? := h.2.2.2.2 k hk hd
theorem OwnS.turn {B lo hi lo' hi' : Nat} {w w' : World} {A : Option Addr} {l : List Value} (h : OwnS B w A l) (hr : InR l.length A lo hi) (t : Turn lo' hi' w w') (hd : hi ≤ lo' ∨ hi' ≤ lo) : OwnS B w' A l := by
  by_cases h0 : l.length = 0
  · exact .inl (List.eq_nil_of_length_eq_zero h0)
  · obtain ⟨g, ha, hB, hs, hc, hf⟩ := h.block (by omega)
    have hrg : rowOf l.length A = some g := by unfold rowOf; rw [if_neg (by omega), ha]; rfl
    have h1 := hr g hrg
    have hkk : w'.heap[g]? = w.heap[g]? := t.block hs (by omega)
    refine .inr ⟨g, ha, hB, Nat.lt_of_lt_of_le hs t.size, fun j hj => ?_, fun j hj => ?_⟩
    · rw [World.cell?_of_block (w := w) (a := ⟨g, j, none⟩) hkk]; exact hc j hj
    · rw [World.frozen?_of_block (w := w) (a := ⟨g, j, none⟩) hkk]; exact hf j hj
def Rds (w : World) (rs : List (Option Addr × List Value)) : Prop := ∀ r, r ∈ rs → RdS w r.1 r.2
def Owns (lo hi : Nat) (w : World) (rs : List (Option Addr × List Value)) : Prop := ∀ r, r ∈ rs → OwnS lo w r.1 r.2 ∧ InR r.2.length r.1 lo hi
def Aparts (rs : List (Option Addr × List Value)) : Prop := rs.Pairwise (fun r s => Apart r.2.length r.1 s.2.length s.1)
theorem Rds.below {w w' : World} {rs : List (Option Addr × List Value)} (h : Rds w rs) (hb : Below w.heap.size w w') : Rds w' rs := fun r hr => (h r hr).below hb
theorem Owns.rds {lo hi : Nat} {w : World} {rs : List (Option Addr × List Value)} (h : Owns lo hi w rs) : Rds w rs := fun r hr => (h r hr).1.rd
theorem Owns.below {lo hi : Nat} {w w' : World} {rs : List (Option Addr × List Value)} (h : Owns lo hi w rs) (hb : Below w.heap.size w w') : Owns lo hi w' rs := fun r hr => ⟨(h r hr).1.below hb, (h r hr).2⟩
theorem Owns.turn {lo hi lo' hi' : Nat} {w w' : World} {rs : List (Option Addr × List Value)} (h : Owns lo hi w rs) (t : Turn lo' hi' w w') (hd : hi ≤ lo' ∨ hi' ≤ lo) : Owns lo hi w' rs := fun r hr => ⟨(h r hr).1.turn (h r hr).2 t hd, (h r hr).2⟩
theorem Owns.put {lo hi b o : Nat} {w : World} {rs : List (Option Addr × List Value)} (h : Owns lo hi w rs) (hb : b < lo ∨ hi ≤ b) (v : Value) : Owns lo hi (w.setCell ⟨b, o, none⟩ v) rs :=
  h.turn (lo' := b) (hi' := b + 1) ⟨rfl, rfl, rfl, by simp [World.setCell], fun k hk hd => Below.heap_setCell w ⟨b, o, none⟩ v k (by show k ≠ b; omega)⟩ (by omega)
theorem Owns.wide {lo hi lo' hi' : Nat} {w : World} {rs : List (Option Addr × List Value)} (h : Owns lo hi w rs) (h1 : lo' ≤ lo) (h2 : hi ≤ hi') : Owns lo' hi' w rs := fun r hr => ⟨(h r hr).1.more h1, (h r hr).2.wide h1 h2⟩
theorem Rds.hd {w : World} {A : Option Addr} {l : List Value} {rs : List (Option Addr × List Value)} (h : Rds w ((A, l) :: rs)) : RdS w A l := h (A, l) (by simp)
theorem Rds.tl {w : World} {x : Option Addr × List Value} {rs : List (Option Addr × List Value)} (h : Rds w (x :: rs)) : Rds w rs := fun r hr => h r (by simp [hr])
theorem Rds.app {w : World} {rs ss : List (Option Addr × List Value)} (h : Rds w rs) (h' : Rds w ss) : Rds w (rs ++ ss) := fun r hr => by
  rcases List.mem_append.1 hr with e | e
  · exact h r e
  · exact h' r e
theorem Owns.app {lo hi : Nat} {w : World} {rs ss : List (Option Addr × List Value)} (h : Owns lo hi w rs) (h' : Owns lo hi w ss) : Owns lo hi w (rs ++ ss) := fun r hr => by
  rcases List.mem_append.1 hr with e | e
  · exact h r e
  · exact h' r e
theorem Owns.nil (lo hi : Nat) (w : World) : Owns lo hi w [] := fun _ h => by cases h
theorem Owns.cons {lo hi : Nat} {w : World} {A : Option Addr} {l : List Value} {rs : List (Option Addr × List Value)} (h : OwnS lo w A l) (hi' : InR l.length A lo hi) (hs : Owns lo hi w rs) : Owns lo hi w ((A, l) :: rs) := fun r hr => by
  rcases List.mem_cons.1 hr with e | e
  · subst e; exact ⟨h, hi'⟩
  · exact hs r e
theorem Owns.hd {lo hi : Nat} {w : World} {A : Option Addr} {l : List Value} {rs : List (Option Addr × List Value)} (h : Owns lo hi w ((A, l) :: rs)) : OwnS lo w A l := (h (A, l) (by simp)).1
theorem Owns.tl {lo hi : Nat} {w : World} {x : Option Addr × List Value} {rs : List (Option Addr × List Value)} (h : Owns lo hi w (x :: rs)) : Owns lo hi w rs := fun r hr => h r (by simp [hr])
theorem Aparts.app {lo mid hi : Nat} {w w' : World} {rs ss : List (Option Addr × List Value)} (h : Aparts rs) (h' : Aparts ss) (o : Owns lo mid w rs) (o' : Owns mid hi w' ss) : Aparts (rs ++ ss) :=
  List.pairwise_append.2 ⟨h, h', fun r hr s hs => (o r hr).2.apart (o' s hs).2 (.inl (Nat.le_refl _))⟩
theorem Aparts.nil : Aparts [] := List.Pairwise.nil
theorem Aparts.one (r : Option Addr × List Value) : Aparts [r] := List.pairwise_singleton _ _
theorem Aparts.two {A D : Option Addr} {l m : List Value} (h : Apart l.length A m.length D) : Aparts [(A, l), (D, m)] :=
  List.Pairwise.cons (fun s hs => by rw [List.mem_singleton] at hs; subst hs; exact h) (Aparts.one _)
theorem owns2 {lo hi : Nat} {w : World} {A D : Option Addr} {l m : List Value} (h : OwnS lo w A l) (h' : OwnS lo w D m) (hz : w.heap.size ≤ hi) : Owns lo hi w [(A, l), (D, m)] :=
  Owns.cons h ((h.inR rfl).wide (Nat.le_refl _) hz) (Owns.cons h' ((h'.inR rfl).wide (Nat.le_refl _) hz) (Owns.nil _ _ _))
end Go.Proofs.YtppdholccpgcpaaGreat
