/-
  SameProblem: the model.
-/
import Derived.Test.YtoknolholccamaaPbP
import Derived.Test.YtoknolholccamaaMsR
import Derived.Test.YtoknolholccamaaSqS1
namespace Go.Proofs.Ytoknolholccamaa
open Go.ChangeShapes Go.WideShapes Go.ChangeAt Go.RowKit
open Go.ChangeMaps (open_string shut_string)
set_option linter.unusedVariables false
set_option linter.unusedSimpArgs false
set_option maxRecDepth 4000

set_option maxHeartbeats 1000000 in
theorem spec_pbSame (p q : PB) (w : World) (hp : PbShort p) (hq : PbShort q) (hR : PbRd w p) (hR' : PbRd w q) :
    Calls Try.prog 5 #[.agg #[.slice p.m.A p.m.L.length p.m.c, .slice p.m.B p.m.T.length p.m.d, .slice p.E p.K.length p.e, .slice p.G p.F.length p.g], .agg #[.slice q.m.A q.m.L.length q.m.c, .slice q.m.B q.m.T.length q.m.d, .slice q.E q.K.length q.e, .slice q.G q.F.length q.g]] w (fun e w' => e = .returned (.bool (PbSame p q)) ∧ Below w.heap.size w w') := by
  have HM : Hid (∀ W, Below w.heap.size w W → Calls Try.prog 11 #[.agg #[.slice p.m.A p.m.L.length p.m.c, .slice p.m.B p.m.T.length p.m.d], .agg #[.slice q.m.A q.m.L.length q.m.c, .slice q.m.B q.m.T.length q.m.d]] W (fun e w' => e = .returned (.bool (sameM p.m q.m)) ∧ Below W.heap.size W w')) := Lib.hid (fun W hb => spec_sameM p.m q.m W hp.1 hq.1 (hR.all.1.below hb) (hR.all.2.1.below hb) (hR'.all.1.below hb) (hR'.all.2.1.below hb))
  have HK : Hid (∀ W, Below w.heap.size w W → Calls Try.prog 12 #[.slice p.E p.K.length p.e, .slice q.E q.K.length q.e] W (fun e w' => e = .returned (.bool (sameQL p.K q.K)) ∧ Below W.heap.size W w')) := Lib.hid (fun W hb => spec_sameQ p.K q.K p.E q.E p.e q.e W (by have := hp.2.1.1; omega) hp.2.1.2 (hR.all.2.2.1.hd.below hb) (hR.all.2.2.1.tl.below hb) (by have := hq.2.1.1; omega) hq.2.1.2 (hR'.all.2.2.1.hd.below hb) (hR'.all.2.2.1.tl.below hb))
  have HF : Hid (∀ W, Below w.heap.size w W → Calls Try.prog 12 #[.slice p.G p.F.length p.g, .slice q.G q.F.length q.g] W (fun e w' => e = .returned (.bool (sameQL p.F q.F)) ∧ Below W.heap.size W w')) := Lib.hid (fun W hb => spec_sameQ p.F q.F p.G q.G p.g q.g W (by have := hp.2.2.1; omega) hp.2.2.2 (hR.all.2.2.2.hd.below hb) (hR.all.2.2.2.tl.below hb) (by have := hq.2.2.1; omega) hq.2.2.2 (hR'.all.2.2.2.hd.below hb) (hR'.all.2.2.2.tl.below hb))
  unfold PbSame
  clear hR hR' hp hq
  generalize sameM p.m q.m = r1 at *
  generalize sameQL p.K q.K = r2 at *
  generalize sameQL p.F q.F = r3 at *
  cases r1 with
  | false =>
    go_enter Try.func5, Try.ntmps5
    go_wp2_with fail
    have kb := ba2 w (.cells #[.slice p.m.A p.m.L.length p.m.c, .slice p.m.B p.m.T.length p.m.d, .slice p.E p.K.length p.e, .slice p.G p.F.length p.g] 37) (.cells #[.slice q.m.A q.m.L.length q.m.c, .slice q.m.B q.m.T.length q.m.d, .slice q.E q.K.length q.e, .slice q.G q.F.length q.g] 37)
    obtain ⟨P_a, P_b⟩ := blocks2 w (.cells #[.slice p.m.A p.m.L.length p.m.c, .slice p.m.B p.m.T.length p.m.d, .slice p.E p.K.length p.e, .slice p.G p.F.length p.g] 37) (.cells #[.slice q.m.A q.m.L.length q.m.c, .slice q.m.B q.m.T.length q.m.d, .slice q.E q.K.length q.e, .slice q.G q.F.length q.g] 37)
    generalize (w.alloc (.cells #[.slice p.m.A p.m.L.length p.m.c, .slice p.m.B p.m.T.length p.m.d, .slice p.E p.K.length p.e, .slice p.G p.F.length p.g] 37)).alloc (.cells #[.slice q.m.A q.m.L.length q.m.c, .slice q.m.B q.m.T.length q.m.d, .slice q.E q.K.length q.e, .slice q.G q.F.length q.g] 37) = W1 at kb P_a P_b ⊢
    refine (HM.out _ kb).mono ?_
    rintro e W2 ⟨rfl, hb⟩
    have hzW2 : W1.heap.size ≤ W2.heap.size := hb.size
    replace P_a := rblk_below P_a hb
    replace P_b := rblk_below P_b hb
    replace kb := bt kb hb
    clear hb
    go_wp2
    go_ret
    exact ⟨rfl, kb⟩
  | true =>
    cases r2 with
    | false =>
      go_enter Try.func5, Try.ntmps5
      go_wp2_with fail
      have kb := ba2 w (.cells #[.slice p.m.A p.m.L.length p.m.c, .slice p.m.B p.m.T.length p.m.d, .slice p.E p.K.length p.e, .slice p.G p.F.length p.g] 37) (.cells #[.slice q.m.A q.m.L.length q.m.c, .slice q.m.B q.m.T.length q.m.d, .slice q.E q.K.length q.e, .slice q.G q.F.length q.g] 37)
      obtain ⟨P_a, P_b⟩ := blocks2 w (.cells #[.slice p.m.A p.m.L.length p.m.c, .slice p.m.B p.m.T.length p.m.d, .slice p.E p.K.length p.e, .slice p.G p.F.length p.g] 37) (.cells #[.slice q.m.A q.m.L.length q.m.c, .slice q.m.B q.m.T.length q.m.d, .slice q.E q.K.length q.e, .slice q.G q.F.length q.g] 37)
      generalize (w.alloc (.cells #[.slice p.m.A p.m.L.length p.m.c, .slice p.m.B p.m.T.length p.m.d, .slice p.E p.K.length p.e, .slice p.G p.F.length p.g] 37)).alloc (.cells #[.slice q.m.A q.m.L.length q.m.c, .slice q.m.B q.m.T.length q.m.d, .slice q.E q.K.length q.e, .slice q.G q.F.length q.g] 37) = W1 at kb P_a P_b ⊢
      refine (HM.out _ kb).mono ?_
      rintro e W2 ⟨rfl, hb⟩
      have hzW2 : W1.heap.size ≤ W2.heap.size := hb.size
      replace P_a := rblk_below P_a hb
      replace P_b := rblk_below P_b hb
      replace kb := bt kb hb
      clear hb
      have c_a0 : W2.cell? ⟨w.heap.size, 0, none⟩ = some (.slice p.m.A p.m.L.length p.m.c) := rblk_cell P_a 0
      have c_a1 : W2.cell? ⟨w.heap.size, 1, none⟩ = some (.slice p.m.B p.m.T.length p.m.d) := rblk_cell P_a 1
      have c_a2 : W2.cell? ⟨w.heap.size, 2, none⟩ = some (.slice p.E p.K.length p.e) := rblk_cell P_a 2
      have c_a3 : W2.cell? ⟨w.heap.size, 3, none⟩ = some (.slice p.G p.F.length p.g) := rblk_cell P_a 3
      have c_b0 : W2.cell? ⟨w.heap.size + 1, 0, none⟩ = some (.slice q.m.A q.m.L.length q.m.c) := rblk_cell P_b 0
      have c_b1 : W2.cell? ⟨w.heap.size + 1, 1, none⟩ = some (.slice q.m.B q.m.T.length q.m.d) := rblk_cell P_b 1
      have c_b2 : W2.cell? ⟨w.heap.size + 1, 2, none⟩ = some (.slice q.E q.K.length q.e) := rblk_cell P_b 2
      have c_b3 : W2.cell? ⟨w.heap.size + 1, 3, none⟩ = some (.slice q.G q.F.length q.g) := rblk_cell P_b 3
      go_wp2_with fail
      clear c_a0 c_a1 c_a2 c_a3 c_b0 c_b1 c_b2 c_b3
      refine (HK.out _ kb).mono ?_
      rintro e W3 ⟨rfl, hb⟩
      have hzW3 : W2.heap.size ≤ W3.heap.size := hb.size
      replace P_a := rblk_below P_a hb
      replace P_b := rblk_below P_b hb
      replace kb := bt kb hb
      clear hb
      go_wp2
      go_ret
      exact ⟨rfl, kb⟩
    | true =>
      go_enter Try.func5, Try.ntmps5
      go_wp2_with fail
      have kb := ba2 w (.cells #[.slice p.m.A p.m.L.length p.m.c, .slice p.m.B p.m.T.length p.m.d, .slice p.E p.K.length p.e, .slice p.G p.F.length p.g] 37) (.cells #[.slice q.m.A q.m.L.length q.m.c, .slice q.m.B q.m.T.length q.m.d, .slice q.E q.K.length q.e, .slice q.G q.F.length q.g] 37)
      obtain ⟨P_a, P_b⟩ := blocks2 w (.cells #[.slice p.m.A p.m.L.length p.m.c, .slice p.m.B p.m.T.length p.m.d, .slice p.E p.K.length p.e, .slice p.G p.F.length p.g] 37) (.cells #[.slice q.m.A q.m.L.length q.m.c, .slice q.m.B q.m.T.length q.m.d, .slice q.E q.K.length q.e, .slice q.G q.F.length q.g] 37)
      generalize (w.alloc (.cells #[.slice p.m.A p.m.L.length p.m.c, .slice p.m.B p.m.T.length p.m.d, .slice p.E p.K.length p.e, .slice p.G p.F.length p.g] 37)).alloc (.cells #[.slice q.m.A q.m.L.length q.m.c, .slice q.m.B q.m.T.length q.m.d, .slice q.E q.K.length q.e, .slice q.G q.F.length q.g] 37) = W1 at kb P_a P_b ⊢
      refine (HM.out _ kb).mono ?_
      rintro e W2 ⟨rfl, hb⟩
      have hzW2 : W1.heap.size ≤ W2.heap.size := hb.size
      replace P_a := rblk_below P_a hb
      replace P_b := rblk_below P_b hb
      replace kb := bt kb hb
      clear hb
      have c_a0 : W2.cell? ⟨w.heap.size, 0, none⟩ = some (.slice p.m.A p.m.L.length p.m.c) := rblk_cell P_a 0
      have c_a1 : W2.cell? ⟨w.heap.size, 1, none⟩ = some (.slice p.m.B p.m.T.length p.m.d) := rblk_cell P_a 1
      have c_a2 : W2.cell? ⟨w.heap.size, 2, none⟩ = some (.slice p.E p.K.length p.e) := rblk_cell P_a 2
      have c_a3 : W2.cell? ⟨w.heap.size, 3, none⟩ = some (.slice p.G p.F.length p.g) := rblk_cell P_a 3
      have c_b0 : W2.cell? ⟨w.heap.size + 1, 0, none⟩ = some (.slice q.m.A q.m.L.length q.m.c) := rblk_cell P_b 0
      have c_b1 : W2.cell? ⟨w.heap.size + 1, 1, none⟩ = some (.slice q.m.B q.m.T.length q.m.d) := rblk_cell P_b 1
      have c_b2 : W2.cell? ⟨w.heap.size + 1, 2, none⟩ = some (.slice q.E q.K.length q.e) := rblk_cell P_b 2
      have c_b3 : W2.cell? ⟨w.heap.size + 1, 3, none⟩ = some (.slice q.G q.F.length q.g) := rblk_cell P_b 3
      go_wp2_with fail
      clear c_a0 c_a1 c_a2 c_a3 c_b0 c_b1 c_b2 c_b3
      refine (HK.out _ kb).mono ?_
      rintro e W3 ⟨rfl, hb⟩
      have hzW3 : W2.heap.size ≤ W3.heap.size := hb.size
      replace P_a := rblk_below P_a hb
      replace P_b := rblk_below P_b hb
      replace kb := bt kb hb
      clear hb
      have c_a0 : W3.cell? ⟨w.heap.size, 0, none⟩ = some (.slice p.m.A p.m.L.length p.m.c) := rblk_cell P_a 0
      have c_a1 : W3.cell? ⟨w.heap.size, 1, none⟩ = some (.slice p.m.B p.m.T.length p.m.d) := rblk_cell P_a 1
      have c_a2 : W3.cell? ⟨w.heap.size, 2, none⟩ = some (.slice p.E p.K.length p.e) := rblk_cell P_a 2
      have c_a3 : W3.cell? ⟨w.heap.size, 3, none⟩ = some (.slice p.G p.F.length p.g) := rblk_cell P_a 3
      have c_b0 : W3.cell? ⟨w.heap.size + 1, 0, none⟩ = some (.slice q.m.A q.m.L.length q.m.c) := rblk_cell P_b 0
      have c_b1 : W3.cell? ⟨w.heap.size + 1, 1, none⟩ = some (.slice q.m.B q.m.T.length q.m.d) := rblk_cell P_b 1
      have c_b2 : W3.cell? ⟨w.heap.size + 1, 2, none⟩ = some (.slice q.E q.K.length q.e) := rblk_cell P_b 2
      have c_b3 : W3.cell? ⟨w.heap.size + 1, 3, none⟩ = some (.slice q.G q.F.length q.g) := rblk_cell P_b 3
      go_wp2_with fail
      clear c_a0 c_a1 c_a2 c_a3 c_b0 c_b1 c_b2 c_b3
      refine (HF.out _ kb).mono ?_
      rintro e W4 ⟨rfl, hb⟩
      have hzW4 : W3.heap.size ≤ W4.heap.size := hb.size
      replace P_a := rblk_below P_a hb
      replace P_b := rblk_below P_b hb
      replace kb := bt kb hb
      clear hb
      go_wp2
      go_ret
      exact ⟨rfl, kb⟩
end Go.Proofs.Ytoknolholccamaa
