/-
  What the harness' functions do over points.
-/
import Derived.Test.YtennekieiioilaaGreatR3
namespace Go.Proofs.YtennekieiioilaaGreat
open Go.ChangeShapes Go.WideShapes Go.ChangeAt Go.RowKit
open Go.ChangeMaps (open_string shut_string)
set_option linter.unusedVariables false
set_option linter.unusedSimpArgs false
set_option maxRecDepth 4000

theorem puts_owns {lo hi g i : Nat} {w : World} {rs : List (Option Addr × List Value)} (h : Owns lo hi w rs) (hg : g < lo) (v : Value) : Owns lo hi (w.setCell ⟨g, i, none⟩ v) rs := h.put (.inl hg) v

/-- Equal data. -/
def sameR (x u : R3) : Bool := decide (x.p = u.p) && decide (x.l = u.l) && decide (x.m = u.m)
theorem sameR_refl (x : R3) : sameR x x = true := by unfold sameR; simp
/-- Rows apart from a fraction's two. -/
theorem owns_grown2 {lo hi : Nat} {w w' : World} {rs : List (Option Addr × List Value)} {x : R3} {a : Ad} (h : Owns lo hi w rs) (hap : Aparts (rows x a ++ rs)) (hg : Grown2 w w' (rowOf x.l.length a.A) (rowOf x.m.length a.D)) : Owns lo hi w' rs := fun r hr => by
  have h1 := (List.pairwise_append.1 hap).2.2 (a.A, vi x.l) (by unfold rows; simp) r hr
  have h2 := (List.pairwise_append.1 hap).2.2 (a.D, vi x.m) (by unfold rows; simp) r hr
  rw [vi_length] at h1 h2
  exact ⟨(h r hr).1.grown2 h1.symm h2.symm hg, (h r hr).2⟩
theorem Aparts.swap {rs ss : List (Option Addr × List Value)} (h : Aparts (rs ++ ss)) : Aparts (ss ++ rs) :=
  List.pairwise_append.2 ⟨(List.pairwise_append.1 h).2.1, (List.pairwise_append.1 h).1, fun r hr s hs => ((List.pairwise_append.1 h).2.2 s hs r hr).symm⟩
theorem Aparts.l {rs ss : List (Option Addr × List Value)} (h : Aparts (rs ++ ss)) : Aparts rs := (List.pairwise_append.1 h).1
theorem Aparts.r {rs ss : List (Option Addr × List Value)} (h : Aparts (rs ++ ss)) : Aparts ss := (List.pairwise_append.1 h).2.1
theorem turn_rows {lo hi : Nat} {w w0 w' : World} {x : R3} {a : Ad} (h : Owns lo hi w0 (rows x a)) (hg : Grown2 w w' (rowOf x.l.length a.A) (rowOf x.m.length a.D)) : Turn lo hi w w' := by
  have i1 := h.hr
  have i2 := h.tl.hr
  rw [vi_length] at i1 i2
  exact Turn.of_grown2 hg i1 i2
theorem mk_apart {k : Int} {x : R3} {a : Ad} {rs : List (Option Addr × List Value)} (h : Aparts (rows x a ++ rs)) : Aparts (rows (mkR k x) a ++ rs) := by
  unfold rows mkR Aparts at *
  simp only [List.cons_append, List.nil_append, List.pairwise_cons, vi_length, marks_length] at h ⊢
  exact ⟨fun s hs => by rcases List.mem_cons.1 hs with e | e; (subst e; have := h.1 _ (List.mem_cons_self ..); simpa [vi_length, marks_length] using this); exact h.1 s (List.mem_cons_of_mem _ e), h.2⟩

end Go.Proofs.YtennekieiioilaaGreat
