/-
  Words of the walks of the laws of points: what a drawn statement leaves that lays a point or a fraction into a new variable.
-/
import Derived.Test.YtennekieiioilaaGreatPtE
import Derived.Test.YtennekieiioilaaGreatPtH
namespace Go.Proofs.YtennekieiioilaaGreat
open Go.ChangeShapes Go.WideShapes Go.ChangeAt Go.RowKit
open Go.ChangeMaps (open_string shut_string)
set_option linter.unusedVariables false
set_option linter.unusedSimpArgs false
set_option maxRecDepth 4000

def CutV6 (W0 : World) (T : TypeId) (x y : R3) (v : Value) (wx : World) : Prop :=
  ∃ gv, ∃ a b : Ad, v = .pointer (some ⟨gv, 0, none⟩) ∧ W0.heap.size ≤ gv ∧ (x.l.length ≤ a.c ∧ x.m.length ≤ a.d ∧ y.l.length ≤ b.c ∧ y.m.length ≤ b.d) ∧ wx.heap[gv]? = some (.cells #[.bool x.p, .slice a.A x.l.length a.c, .slice a.D x.m.length a.d, .bool y.p, .slice b.A y.l.length b.c, .slice b.D y.m.length b.d] T (0, 0)) ∧ Owns W0.heap.size wx.heap.size wx (rows x a ++ rows y b) ∧ Aparts (rows x a ++ rows y b) ∧ Below W0.heap.size W0 wx
def CutV3 (W0 : World) (T : TypeId) (x : R3) (v : Value) (wx : World) : Prop :=
  ∃ gv, ∃ a : Ad, v = .pointer (some ⟨gv, 0, none⟩) ∧ W0.heap.size ≤ gv ∧ (x.l.length ≤ a.c ∧ x.m.length ≤ a.d) ∧ wx.heap[gv]? = some (.cells #[.bool x.p, .slice a.A x.l.length a.c, .slice a.D x.m.length a.d] T (0, 0)) ∧ Owns W0.heap.size wx.heap.size wx (rows x a) ∧ Aparts (rows x a) ∧ Below W0.heap.size W0 wx
theorem cutV6_late {W0 w : World} {T : TypeId} {x y : R3} {a b : Ad} {lo hi : Nat} (hz : W0.heap.size ≤ w.heap.size) (hcap : (x.l.length ≤ a.c ∧ x.m.length ≤ a.d ∧ y.l.length ≤ b.c ∧ y.m.length ≤ b.d)) (hO : Owns lo hi w (rows x a ++ rows y b)) (hlo : W0.heap.size ≤ lo) (hhi : hi ≤ w.heap.size) (hap : Aparts (rows x a ++ rows y b)) (KB : Below W0.heap.size W0 w) :
    CutV6 W0 T x y (.pointer (some ⟨w.heap.size, 0, none⟩)) (w.alloc (.cells #[.bool x.p, .slice a.A x.l.length a.c, .slice a.D x.m.length a.d, .bool y.p, .slice b.A y.l.length b.c, .slice b.D y.m.length b.d] T)) :=
  ⟨_, a, b, rfl, hz, hcap, heap_alloc_new _ _, (hO.below (ba1 _ _)).wide hlo (Nat.le_trans hhi (ba1 _ _).size), hap, KB.alloc hz _⟩
theorem cutV6_early {W0 w : World} {T : TypeId} {x y : R3} {a b : Ad} {lo hi g : Nat} {v0 v1 v2 v3 v4 v5 : Value} (tt : w.heap[g]? = some (.cells #[v0, v1, v2, v3, v4, v5] T (0, 0))) (hg : W0.heap.size ≤ g) (hgB : g < lo) (hcap : (x.l.length ≤ a.c ∧ x.m.length ≤ a.d ∧ y.l.length ≤ b.c ∧ y.m.length ≤ b.d)) (hO : Owns lo hi w (rows x a ++ rows y b)) (hlo : W0.heap.size ≤ lo) (hhi : hi ≤ w.heap.size) (hap : Aparts (rows x a ++ rows y b)) (KB : Below W0.heap.size W0 w) :
    CutV6 W0 T x y (.pointer (some ⟨g, 0, none⟩)) ((((((w.setCell ⟨g, 0, none⟩ (.bool x.p)).setCell ⟨g, 1, none⟩ (.slice a.A x.l.length a.c)).setCell ⟨g, 2, none⟩ (.slice a.D x.m.length a.d)).setCell ⟨g, 3, none⟩ (.bool y.p)).setCell ⟨g, 4, none⟩ (.slice b.A y.l.length b.c)).setCell ⟨g, 5, none⟩ (.slice b.D y.m.length b.d)) :=
  ⟨_, a, b, rfl, hg, hcap, (rblk_set (rblk_set (rblk_set (rblk_set (rblk_set (rblk_set tt 0 _) 1 _) 2 _) 3 _) 4 _) 5 _), owns_end6 hO (.inl hgB) hlo hhi _ _ _ _ _ _, hap, below_put6 KB hg _ _ _ _ _ _⟩
theorem cutV3_late {W0 w : World} {T : TypeId} {x : R3} {a : Ad} {lo hi : Nat} (hz : W0.heap.size ≤ w.heap.size) (hcap : (x.l.length ≤ a.c ∧ x.m.length ≤ a.d)) (hO : Owns lo hi w (rows x a)) (hlo : W0.heap.size ≤ lo) (hhi : hi ≤ w.heap.size) (hap : Aparts (rows x a)) (KB : Below W0.heap.size W0 w) :
    CutV3 W0 T x (.pointer (some ⟨w.heap.size, 0, none⟩)) (w.alloc (.cells #[.bool x.p, .slice a.A x.l.length a.c, .slice a.D x.m.length a.d] T)) :=
  ⟨_, a, rfl, hz, hcap, heap_alloc_new _ _, (hO.below (ba1 _ _)).wide hlo (Nat.le_trans hhi (ba1 _ _).size), hap, KB.alloc hz _⟩
theorem cutV3_early {W0 w : World} {T : TypeId} {x : R3} {a : Ad} {lo hi g : Nat} {v0 v1 v2 : Value} (tt : w.heap[g]? = some (.cells #[v0, v1, v2] T (0, 0))) (hg : W0.heap.size ≤ g) (hgB : g < lo) (hcap : (x.l.length ≤ a.c ∧ x.m.length ≤ a.d)) (hO : Owns lo hi w (rows x a)) (hlo : W0.heap.size ≤ lo) (hhi : hi ≤ w.heap.size) (hap : Aparts (rows x a)) (KB : Below W0.heap.size W0 w) :
    CutV3 W0 T x (.pointer (some ⟨g, 0, none⟩)) (((w.setCell ⟨g, 0, none⟩ (.bool x.p)).setCell ⟨g, 1, none⟩ (.slice a.A x.l.length a.c)).setCell ⟨g, 2, none⟩ (.slice a.D x.m.length a.d)) :=
  ⟨_, a, rfl, hg, hcap, (rblk_set (rblk_set (rblk_set tt 0 _) 1 _) 2 _), owns_end3 hO (.inl hgB) hlo hhi _ _ _, hap, below_put3 KB hg _ _ _⟩
end Go.Proofs.YtennekieiioilaaGreat
