/-
  A fraction, a point that came in, read in bundled words.
-/
import Derived.Test.YtppdholccpgcpaaGreatPkD
import Derived.Test.YtppdholccpgcpaaGreatR3
import Derived.Test.YtppdholccpgcpaaGreatRl
import Derived.Test.YtppdholccpgcpaaGreatPtE
import Derived.Test.YtppdholccpgcpaaGreatPtH
namespace Go.Proofs.YtppdholccpgcpaaGreat
open Go.ChangeShapes Go.WideShapes Go.ChangeAt Go.RowKit Go.Joins
open Go.ChangeMaps (open_string shut_string)
set_option linter.unusedVariables false
set_option linter.unusedSimpArgs false
set_option maxRecDepth 10000
theorem openRc {H : Type} {enc : TypeId × Value → H} {W : World} {n : Nat} {c0 c1 c2 : Value} {z} (hf : DataW.trod enc Tryz.prog W 0 (fun _ => true) true n 116 [c0, c1, c2] = some z) :
    ∃ (x : R3) (a : Ad), c0 = .bool x.p ∧ c1 = .slice a.A x.l.length a.c ∧ c2 = .slice a.D x.m.length a.d ∧ x.l.length ≤ 9223372036854775807 ∧ x.m.length ≤ 9223372036854775807 ∧ Rds W (rows x a) := by
  obtain ⟨y0, y1, n, hx, _, h0, h1⟩ := trod_struct2 Tryz.underlying116 hf
  have k0 : Tryz.prog.cellsOf 114 = 2 := cellsBig
  have k1 : Tryz.prog.cellsOf 25 = 1 := by kernel_rfl
  obtain ⟨z0, z1, n', hx', _, g0, g1⟩ := trod_struct2 Tryz.underlying114 h0
  have o0 : Tryz.prog.cellsOf 4 = 1 := by kernel_rfl
  have e0 : DataW.trod enc Tryz.prog W 0 (fun _ => true) true n' 4 [c0] = some z0 := by simpa [Value.cells, o0, k0] using g0
  have e1 : DataW.trod enc Tryz.prog W 0 (fun _ => true) true n' 25 [c1] = some z1 := by simpa [Value.cells, o0, k0, k1] using g1
  have e2 : DataW.trod enc Tryz.prog W 0 (fun _ => true) true n 25 [c2] = some y1 := by simpa [Value.cells, o0, k0, k1] using h1
  obtain ⟨b, eb, _⟩ := DataW.trod_bool Tryz.underlying4 e0
  injection eb with eb _
  subst eb
  obtain ⟨A, na, ca, l, rfl, a1, a2, a3⟩ := openedC e1
  obtain ⟨D, nb, cb, m, rfl, b1, b2, b3⟩ := openedC e2
  subst a1
  subst b1
  exact ⟨⟨b, l, m⟩, ⟨A, ca, D, cb⟩, rfl, rfl, rfl, a2, b2, rds2 a3 b3⟩
theorem cellsPoint : Tryz.prog.cellsOf 118 = 6 := by kernel_rfl
end Go.Proofs.YtppdholccpgcpaaGreat
namespace Go.Proofs.YtppdholccpgcpaaGreat
open Go.ChangeShapes Go.WideShapes Go.ChangeAt Go.RowKit
open Go.ChangeMaps (open_string shut_string)
set_option linter.unusedVariables false
set_option linter.unusedSimpArgs false
set_option maxRecDepth 4000
def validB (L : List RV) : Bool := L.all (fun p => okx p.x)
theorem validB_at {L : List RV} (h : validB L = true) {i : Nat} {p : RV} (hp : L[i]? = some p) : okx p.x = true := List.all_eq_true.1 h p (List.mem_of_getElem? hp)
end Go.Proofs.YtppdholccpgcpaaGreat
namespace Go.Proofs.YtppdholccpgcpaaGreat
open Go.ChangeShapes Go.WideShapes Go.ChangeAt Go.RowKit
open Go.ChangeMaps (open_string shut_string)
set_option linter.unusedVariables false
set_option linter.unusedSimpArgs false
set_option maxRecDepth 4000
def CutV3 (W0 : World) (T : TypeId) (x : R3) (v : Value) (wx : World) : Prop :=
  ∃ gv, ∃ a : Ad, v = .pointer (some ⟨gv, 0, none⟩) ∧ W0.heap.size ≤ gv ∧ (x.l.length ≤ a.c ∧ x.m.length ≤ a.d) ∧ wx.heap[gv]? = some (.cells #[.bool x.p, .slice a.A x.l.length a.c, .slice a.D x.m.length a.d] T (0, 0)) ∧ Owns W0.heap.size wx.heap.size wx (rows x a) ∧ Aparts (rows x a) ∧ Below W0.heap.size W0 wx
theorem cutV3_late {W0 w : World} {T : TypeId} {x : R3} {a : Ad} {lo hi : Nat} (hz : W0.heap.size ≤ w.heap.size) (hcap : (x.l.length ≤ a.c ∧ x.m.length ≤ a.d)) (hO : Owns lo hi w (rows x a)) (hlo : W0.heap.size ≤ lo) (hhi : hi ≤ w.heap.size) (hap : Aparts (rows x a)) (KB : Below W0.heap.size W0 w) :
    CutV3 W0 T x (.pointer (some ⟨w.heap.size, 0, none⟩)) (w.alloc (.cells #[.bool x.p, .slice a.A x.l.length a.c, .slice a.D x.m.length a.d] T)) :=
  ⟨_, a, rfl, hz, hcap, heap_alloc_new _ _, (hO.below (ba1 _ _)).wide hlo (Nat.le_trans hhi (ba1 _ _).size), hap, KB.alloc hz _⟩
theorem cutV3_early {W0 w : World} {T : TypeId} {x : R3} {a : Ad} {lo hi g : Nat} {v0 v1 v2 : Value} (tt : w.heap[g]? = some (.cells #[v0, v1, v2] T (0, 0))) (hg : W0.heap.size ≤ g) (hgB : g < lo) (hcap : (x.l.length ≤ a.c ∧ x.m.length ≤ a.d)) (hO : Owns lo hi w (rows x a)) (hlo : W0.heap.size ≤ lo) (hhi : hi ≤ w.heap.size) (hap : Aparts (rows x a)) (KB : Below W0.heap.size W0 w) :
    CutV3 W0 T x (.pointer (some ⟨g, 0, none⟩)) (((w.setCell ⟨g, 0, none⟩ (.bool x.p)).setCell ⟨g, 1, none⟩ (.slice a.A x.l.length a.c)).setCell ⟨g, 2, none⟩ (.slice a.D x.m.length a.d)) :=
  ⟨_, a, rfl, hg, hcap, (rblk_set (rblk_set (rblk_set tt 0 _) 1 _) 2 _), owns_end3 hO (.inl hgB) hlo hhi _ _ _, hap, below_put3 KB hg _ _ _⟩
end Go.Proofs.YtppdholccpgcpaaGreat
