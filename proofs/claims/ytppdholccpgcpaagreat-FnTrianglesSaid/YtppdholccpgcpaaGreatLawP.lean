/-
  Lists of lists of fractions: the row of their rows; equality, marks.
-/
import Derived.Test.YtppdholccpgcpaaGreatRl
import Derived.Test.YtppdholccpgcpaaGreatSl
import Derived.Test.YtppdholccpgcpaaGreatR3
import Derived.Test.YtppdholccpgcpaaGreatPtE
import Derived.Test.YtppdholccpgcpaaGreatPtH
namespace Go.Proofs.YtppdholccpgcpaaGreat
open Go.ChangeShapes Go.WideShapes Go.ChangeAt Go.RowKit
set_option linter.unusedVariables false
set_option linter.unusedSimpArgs false
set_option maxRecDepth 4000
structure SV where
  L : List RV
  A : Option Addr
  c : Nat
end Go.Proofs.YtppdholccpgcpaaGreat
namespace Go.Proofs.YtppdholccpgcpaaGreat
@[reducible, go_sem] def r3 (x : R3) (a : Ad) : Array Value := #[.bool x.p, .slice a.A x.l.length a.c, .slice a.D x.m.length a.d]
@[reducible, go_sem] def r6 (x y : R3) (a b : Ad) : Array Value := #[.bool x.p, .slice a.A x.l.length a.c, .slice a.D x.m.length a.d, .bool y.p, .slice b.A y.l.length b.c, .slice b.D y.m.length b.d]
end Go.Proofs.YtppdholccpgcpaaGreat
namespace Go.Proofs.YtppdholccpgcpaaGreat
@[reducible, go_sem] def p6 (p : PV) : Array Value := #[.bool p.x.p, .slice p.a.A p.x.l.length p.a.c, .slice p.a.D p.x.m.length p.a.d, .bool p.y.p, .slice p.b.A p.y.l.length p.b.c, .slice p.b.D p.y.m.length p.b.d]
@[reducible, go_sem] def p18 (p q r : PV) : Array Value := #[.bool p.x.p, .slice p.a.A p.x.l.length p.a.c, .slice p.a.D p.x.m.length p.a.d, .bool p.y.p, .slice p.b.A p.y.l.length p.b.c, .slice p.b.D p.y.m.length p.b.d, .bool q.x.p, .slice q.a.A q.x.l.length q.a.c, .slice q.a.D q.x.m.length q.a.d, .bool q.y.p, .slice q.b.A q.y.l.length q.b.c, .slice q.b.D q.y.m.length q.b.d, .bool r.x.p, .slice r.a.A r.x.l.length r.a.c, .slice r.a.D r.x.m.length r.a.d, .bool r.y.p, .slice r.b.A r.y.l.length r.b.c, .slice r.b.D r.y.m.length r.b.d]
end Go.Proofs.YtppdholccpgcpaaGreat
namespace Go.Proofs.YtppdholccpgcpaaGreat
open Go.ChangeShapes Go.WideShapes Go.ChangeAt Go.RowKit
set_option linter.unusedVariables false
set_option linter.unusedSimpArgs false
set_option maxRecDepth 4000
def CutV3 (W0 : World) (T : TypeId) (x : R3) (v : Value) (wx : World) : Prop :=
  ∃ gv, ∃ a : Ad, v = .pointer (some ⟨gv, 0, none⟩) ∧ W0.heap.size ≤ gv ∧ (x.l.length ≤ a.c ∧ x.m.length ≤ a.d) ∧ wx.heap[gv]? = some (.cells (r3 x a) T (0, 0)) ∧ Owns W0.heap.size wx.heap.size wx (rows x a) ∧ Aparts (rows x a) ∧ Below W0.heap.size W0 wx
theorem cutV3_late {W0 w : World} {T : TypeId} {x : R3} {a : Ad} {lo hi : Nat} (hz : W0.heap.size ≤ w.heap.size) (hcap : (x.l.length ≤ a.c ∧ x.m.length ≤ a.d)) (hO : Owns lo hi w (rows x a)) (hlo : W0.heap.size ≤ lo) (hhi : hi ≤ w.heap.size) (hap : Aparts (rows x a)) (KB : Below W0.heap.size W0 w) :
    CutV3 W0 T x (.pointer (some ⟨w.heap.size, 0, none⟩)) (w.alloc (.cells (r3 x a) T)) :=
  ⟨_, a, rfl, hz, hcap, heap_alloc_new _ _, (hO.below (ba1 _ _)).wide hlo (Nat.le_trans hhi (ba1 _ _).size), hap, KB.alloc hz _⟩
theorem cutV3_early {W0 w : World} {T : TypeId} {x : R3} {a : Ad} {lo hi g : Nat} {v0 v1 v2 : Value} (tt : w.heap[g]? = some (.cells #[v0, v1, v2] T (0, 0))) (hg : W0.heap.size ≤ g) (hgB : g < lo) (hcap : (x.l.length ≤ a.c ∧ x.m.length ≤ a.d)) (hO : Owns lo hi w (rows x a)) (hlo : W0.heap.size ≤ lo) (hhi : hi ≤ w.heap.size) (hap : Aparts (rows x a)) (KB : Below W0.heap.size W0 w) :
    CutV3 W0 T x (.pointer (some ⟨g, 0, none⟩)) (((w.setCell ⟨g, 0, none⟩ (.bool x.p)).setCell ⟨g, 1, none⟩ (.slice a.A x.l.length a.c)).setCell ⟨g, 2, none⟩ (.slice a.D x.m.length a.d)) :=
  ⟨_, a, rfl, hg, hcap, (rblk_set (rblk_set (rblk_set tt 0 _) 1 _) 2 _), owns_end3 hO (.inl hgB) hlo hhi _ _ _, hap, below_put3 KB hg _ _ _⟩
end Go.Proofs.YtppdholccpgcpaaGreat
