/-
  Equal problems, by the harness.
-/
import Derived.Test.YtoknolholccamaaPb
import Derived.Test.YtoknolholccamaaMsE
import Derived.Test.YtoknolholccamaaRlE
namespace Go.Proofs.Ytoknolholccamaa
open Go.ChangeShapes Go.WideShapes Go.ChangeAt Go.RowKit
open Go.ChangeMaps (open_string shut_string)
set_option linter.unusedVariables false
set_option linter.unusedSimpArgs false
set_option maxRecDepth 4000

set_option maxHeartbeats 1000000 in
theorem eqPb_t (p n k : PB) (w : World) (hp : PbShort p) (hd : PbDat n = PbDat p) (hd' : PbDat k = PbDat p) (hR : PbRd w n) (hR' : PbRd w k) :
    Calls Try.prog 8 #[.agg #[.slice n.m.A n.m.L.length n.m.c, .slice n.m.B n.m.T.length n.m.d, .slice n.E n.K.length n.e, .slice n.G n.F.length n.g], .agg #[.slice k.m.A k.m.L.length k.m.c, .slice k.m.B k.m.T.length k.m.d, .slice k.E k.K.length k.e, .slice k.G k.F.length k.g]] w (fun e w' => e = .returned (.bool true) ∧ Below w.heap.size w w') := by
  obtain ⟨d1, d2, d3⟩ := PbDat.parts hd
  obtain ⟨e1, e2, e3⟩ := PbDat.parts hd'
  have EM : Hid (∀ W, Below w.heap.size w W → Calls Try.prog 18 #[.agg #[.slice n.m.A n.m.L.length n.m.c, .slice n.m.B n.m.T.length n.m.d], .agg #[.slice k.m.A k.m.L.length k.m.c, .slice k.m.B k.m.T.length k.m.d]] W (fun e w' => e = .returned (.bool true) ∧ Below W.heap.size W w')) := Lib.hid (fun W hb => eqMesh_t p.m n.m k.m W hp.1 d1 e1 (hR.all.1.below hb) (hR.all.2.1.below hb) (hR'.all.1.below hb) (hR'.all.2.1.below hb))
  have EK : Hid (∀ W, Below w.heap.size w W → Calls Try.prog 19 #[.slice n.E n.K.length n.e, .slice k.E k.K.length k.e] W (fun e w' => e = .returned (.bool true) ∧ Below W.heap.size W w')) := Lib.hid (fun W hb => eqRS_t p.K n.K k.K n.E k.E n.e k.e W hp.2.1.1 hp.2.1.2 d2 e2 (hR.all.2.2.1.below hb) (hR'.all.2.2.1.below hb))
  have EF : Hid (∀ W, Below w.heap.size w W → Calls Try.prog 19 #[.slice n.G n.F.length n.g, .slice k.G k.F.length k.g] W (fun e w' => e = .returned (.bool true) ∧ Below W.heap.size W w')) := Lib.hid (fun W hb => eqRS_t p.F n.F k.F n.G k.G n.g k.g W hp.2.2.1 hp.2.2.2 d3 e3 (hR.all.2.2.2.below hb) (hR'.all.2.2.2.below hb))
  clear hR hR' hd hd' hp d1 d2 d3 e1 e2 e3
  go_enter Try.func8, Try.ntmps8
  go_wp2_with fail
  have kb := ba2 w (.cells #[.slice n.m.A n.m.L.length n.m.c, .slice n.m.B n.m.T.length n.m.d, .slice n.E n.K.length n.e, .slice n.G n.F.length n.g] 37) (.cells #[.slice k.m.A k.m.L.length k.m.c, .slice k.m.B k.m.T.length k.m.d, .slice k.E k.K.length k.e, .slice k.G k.F.length k.g] 37)
  obtain ⟨P_a, P_b⟩ := blocks2 w (.cells #[.slice n.m.A n.m.L.length n.m.c, .slice n.m.B n.m.T.length n.m.d, .slice n.E n.K.length n.e, .slice n.G n.F.length n.g] 37) (.cells #[.slice k.m.A k.m.L.length k.m.c, .slice k.m.B k.m.T.length k.m.d, .slice k.E k.K.length k.e, .slice k.G k.F.length k.g] 37)
  generalize (w.alloc (.cells #[.slice n.m.A n.m.L.length n.m.c, .slice n.m.B n.m.T.length n.m.d, .slice n.E n.K.length n.e, .slice n.G n.F.length n.g] 37)).alloc (.cells #[.slice k.m.A k.m.L.length k.m.c, .slice k.m.B k.m.T.length k.m.d, .slice k.E k.K.length k.e, .slice k.G k.F.length k.g] 37) = W1 at kb P_a P_b ⊢
  refine (EM.out _ kb).mono ?_
  rintro e W2 ⟨rfl, hb⟩
  have hzW2 : W1.heap.size ≤ W2.heap.size := hb.size
  replace P_a := rblk_below P_a hb
  replace P_b := rblk_below P_b hb
  replace kb := bt kb hb
  clear hb
  have c_a0 : W2.cell? ⟨w.heap.size, 0, none⟩ = some (.slice n.m.A n.m.L.length n.m.c) := rblk_cell P_a 0
  have c_a1 : W2.cell? ⟨w.heap.size, 1, none⟩ = some (.slice n.m.B n.m.T.length n.m.d) := rblk_cell P_a 1
  have c_a2 : W2.cell? ⟨w.heap.size, 2, none⟩ = some (.slice n.E n.K.length n.e) := rblk_cell P_a 2
  have c_a3 : W2.cell? ⟨w.heap.size, 3, none⟩ = some (.slice n.G n.F.length n.g) := rblk_cell P_a 3
  have c_b0 : W2.cell? ⟨w.heap.size + 1, 0, none⟩ = some (.slice k.m.A k.m.L.length k.m.c) := rblk_cell P_b 0
  have c_b1 : W2.cell? ⟨w.heap.size + 1, 1, none⟩ = some (.slice k.m.B k.m.T.length k.m.d) := rblk_cell P_b 1
  have c_b2 : W2.cell? ⟨w.heap.size + 1, 2, none⟩ = some (.slice k.E k.K.length k.e) := rblk_cell P_b 2
  have c_b3 : W2.cell? ⟨w.heap.size + 1, 3, none⟩ = some (.slice k.G k.F.length k.g) := rblk_cell P_b 3
  go_wp2_with fail
  clear c_a0 c_a1 c_a2 c_a3 c_b0 c_b1 c_b2 c_b3
  refine (EK.out _ kb).mono ?_
  rintro e W3 ⟨rfl, hb⟩
  have hzW3 : W2.heap.size ≤ W3.heap.size := hb.size
  replace P_a := rblk_below P_a hb
  replace P_b := rblk_below P_b hb
  replace kb := bt kb hb
  clear hb
  have c_a0 : W3.cell? ⟨w.heap.size, 0, none⟩ = some (.slice n.m.A n.m.L.length n.m.c) := rblk_cell P_a 0
  have c_a1 : W3.cell? ⟨w.heap.size, 1, none⟩ = some (.slice n.m.B n.m.T.length n.m.d) := rblk_cell P_a 1
  have c_a2 : W3.cell? ⟨w.heap.size, 2, none⟩ = some (.slice n.E n.K.length n.e) := rblk_cell P_a 2
  have c_a3 : W3.cell? ⟨w.heap.size, 3, none⟩ = some (.slice n.G n.F.length n.g) := rblk_cell P_a 3
  have c_b0 : W3.cell? ⟨w.heap.size + 1, 0, none⟩ = some (.slice k.m.A k.m.L.length k.m.c) := rblk_cell P_b 0
  have c_b1 : W3.cell? ⟨w.heap.size + 1, 1, none⟩ = some (.slice k.m.B k.m.T.length k.m.d) := rblk_cell P_b 1
  have c_b2 : W3.cell? ⟨w.heap.size + 1, 2, none⟩ = some (.slice k.E k.K.length k.e) := rblk_cell P_b 2
  have c_b3 : W3.cell? ⟨w.heap.size + 1, 3, none⟩ = some (.slice k.G k.F.length k.g) := rblk_cell P_b 3
  go_wp2_with fail
  clear c_a0 c_a1 c_a2 c_a3 c_b0 c_b1 c_b2 c_b3
  refine (EF.out _ kb).mono ?_
  rintro e W4 ⟨rfl, hb⟩
  have hzW4 : W3.heap.size ≤ W4.heap.size := hb.size
  replace P_a := rblk_below P_a hb
  replace P_b := rblk_below P_b hb
  replace kb := bt kb hb
  clear hb
  go_wp2
  go_ret
  exact ⟨rfl, kb⟩
end Go.Proofs.Ytoknolholccamaa
