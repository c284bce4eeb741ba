/-
  Words of appends: blocks that hold no row.
-/
import Derived.Test.YtppdholccpgcpaaGreatSlH
import Derived.Maps.AppendAt
import Derived.Test.YtppdholccpgcpaaGreatRl
import Derived.Test.YtppdholccpgcpaaGreatWr
import Derived.Test.YtppdholccpgcpaaGreatSl
namespace Go.Proofs.YtppdholccpgcpaaGreat
open Go.ChangeShapes Go.WideShapes Go.ChangeAt Go.RowKit
set_option linter.unusedVariables false
set_option linter.unusedSimpArgs false
set_option maxRecDepth 4000
def OffG (g : Nat) (rs : List (Option Addr × List Value)) : Prop := ∀ r, r ∈ rs → rowOf r.2.length r.1 ≠ some g
theorem offG_owns {lo hi g : Nat} {w : World} {rs : List (Option Addr × List Value)} (h : Owns lo hi w rs) (hg : g < lo) : OffG g rs := fun r hr e => by
  have := (h r hr).2 g e
  omega
theorem ownS_grown {B : Nat} {w w' : World} {A : Option Addr} {l : List Value} {ob : Option Nat} (h : OwnS B w A l) (hg : w.grownBy w' ob) (ho : ∀ g, ob = some g → rowOf l.length A ≠ some g) : OwnS B w' A l := by
  rcases h with h0 | ⟨g, ha, hB, hs, hc, hf⟩
  · exact .inl h0
  · by_cases h0 : l.length = 0
    · exact .inl (List.eq_nil_of_length_eq_zero h0)
    have hne : some g ≠ ob := fun e => ho g e.symm (by unfold rowOf; rw [if_neg h0, ha]; rfl)
    have hk : w'.heap[g]? = w.heap[g]? := hg.block g hs hne
    refine .inr ⟨g, ha, hB, Nat.lt_of_lt_of_le hs hg.size, fun j hj => ?_, fun j hj => ?_⟩
    · rw [World.cell?_of_block (w := w) (a := ⟨g, j, none⟩) hk]; exact hc j hj
    · rw [World.frozen?_of_block (w := w) (a := ⟨g, j, none⟩) hk]; exact hf j hj
theorem owns_grown {lo hi : Nat} {w w' : World} {rs : List (Option Addr × List Value)} {ob : Option Nat} (h : Owns lo hi w rs) (hg : w.grownBy w' ob) (ho : ∀ g, ob = some g → OffG g rs) : Owns lo hi w' rs := fun r hr =>
  ⟨ownS_grown (h r hr).1 hg (fun g e => ho g e r hr), (h r hr).2⟩
end Go.Proofs.YtppdholccpgcpaaGreat
namespace Go.Proofs.YtppdholccpgcpaaGreat
open Go.ChangeShapes Go.WideShapes Go.ChangeAt Go.RowKit
set_option linter.unusedVariables false
set_option linter.unusedSimpArgs false
set_option maxRecDepth 4000
def validB (L : List RV) : Bool := L.all (fun p => okx p.x)
theorem validB_dat {L M : List RV} (h : datQ M = datQ L) : validB M = validB L := by
  have e : ∀ K : List RV, validB K = (datQ K).all okx := fun K => by unfold validB datQ; rw [List.all_map]; rfl
  rw [e, e, h]
theorem validB_at {L : List RV} (h : validB L = true) {i : Nat} {p : RV} (hp : L[i]? = some p) : okx p.x = true := List.all_eq_true.1 h p (List.mem_of_getElem? hp)
end Go.Proofs.YtppdholccpgcpaaGreat
namespace Go.Proofs.YtppdholccpgcpaaGreat
@[reducible, go_sem] def p6 (p : PV) : Array Value := #[.bool p.x.p, .slice p.a.A p.x.l.length p.a.c, .slice p.a.D p.x.m.length p.a.d, .bool p.y.p, .slice p.b.A p.y.l.length p.b.c, .slice p.b.D p.y.m.length p.b.d]
@[reducible, go_sem] def p18 (p q r : PV) : Array Value := #[.bool p.x.p, .slice p.a.A p.x.l.length p.a.c, .slice p.a.D p.x.m.length p.a.d, .bool p.y.p, .slice p.b.A p.y.l.length p.b.c, .slice p.b.D p.y.m.length p.b.d, .bool q.x.p, .slice q.a.A q.x.l.length q.a.c, .slice q.a.D q.x.m.length q.a.d, .bool q.y.p, .slice q.b.A q.y.l.length q.b.c, .slice q.b.D q.y.m.length q.b.d, .bool r.x.p, .slice r.a.A r.x.l.length r.a.c, .slice r.a.D r.x.m.length r.a.d, .bool r.y.p, .slice r.b.A r.y.l.length r.b.c, .slice r.b.D r.y.m.length r.b.d]
end Go.Proofs.YtppdholccpgcpaaGreat
