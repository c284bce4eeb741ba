/-
  SameProblem: the program.
-/
import Derived.Test.YtoknolholccamaaPb
import Derived.Test.YtoknolholccamaaPbQ
import Derived.Test.YtoknolholccamaaMsP
namespace Go.Proofs.Ytoknolholccamaa
open Go.ChangeShapes Go.WideShapes Go.ChangeAt Go.RowKit
open Go.ChangeMaps (open_string shut_string)
set_option linter.unusedVariables false
set_option linter.unusedSimpArgs false
set_option maxRecDepth 4000

/-- Problems with the same data. -/
def PbSame (p q : PB) : Bool := sameM p.m q.m && sameQL p.K q.K && sameQL p.F q.F
theorem PbSame_dat {p q p' q' : PB} (h : PbDat p' = PbDat p) (h' : PbDat q' = PbDat q) : PbSame p' q' = PbSame p q := by
  obtain ⟨d1, d2, d3⟩ := PbDat.parts h
  obtain ⟨e1, e2, e3⟩ := PbDat.parts h'
  unfold PbSame
  rw [sameM_dat d1 e1, sameQL_dat d2 e2, sameQL_dat d3 e3]
set_option maxHeartbeats 1000000 in
theorem impl_pbSame (p q : PB) (w : World) (hp : PbShort p) (hq : PbShort q) (hP : ∀ x, x ∈ q.m.L → Pin x.a ∧ Pin x.b) (hR : PbRd w p) (hR' : PbRd w q) :
    Calls Try.prog 7 #[.agg #[.slice p.m.A p.m.L.length p.m.c, .slice p.m.B p.m.T.length p.m.d, .slice p.E p.K.length p.e, .slice p.G p.F.length p.g], .agg #[.slice q.m.A q.m.L.length q.m.c, .slice q.m.B q.m.T.length q.m.d, .slice q.E q.K.length q.e, .slice q.G q.F.length q.g]] w (fun e w' => e = .returned (.bool (PbSame p q)) ∧ Below w.heap.size w w') := by
  have HM : Hid (∀ W, Below w.heap.size w W → Calls Try.prog 15 #[.agg #[.slice p.m.A p.m.L.length p.m.c, .slice p.m.B p.m.T.length p.m.d], .agg #[.slice q.m.A q.m.L.length q.m.c, .slice q.m.B q.m.T.length q.m.d]] W (fun e w' => e = .returned (.bool (sameM p.m q.m)) ∧ Below W.heap.size W w')) := Lib.hid (fun W hb => impl_sameM p.m q.m W hp.1 hq.1 hP (hR.all.1.below hb) (hR.all.2.1.below hb) (hR'.all.1.below hb) (hR'.all.2.1.below hb))
  have HK : Hid (∀ W, Below w.heap.size w W → Calls Try.prog 16 #[.slice p.E p.K.length p.e, .slice q.E q.K.length q.e, .func (.func 17) #[] #[]] W (fun e w' => e = .returned (.bool (sameQL p.K q.K)) ∧ Below W.heap.size W w')) := Lib.hid (fun W hb => eqFuncQ_r p.K q.K p.E q.E p.e q.e W hp.2.1.1 hq.2.1.1 hp.2.1.2 hq.2.1.2 (hR.all.2.2.1.below hb) (hR'.all.2.2.1.below hb))
  have HF : Hid (∀ W, Below w.heap.size w W → Calls Try.prog 16 #[.slice p.G p.F.length p.g, .slice q.G q.F.length q.g, .func (.func 17) #[] #[]] W (fun e w' => e = .returned (.bool (sameQL p.F q.F)) ∧ Below W.heap.size W w')) := Lib.hid (fun W hb => eqFuncQ_r p.F q.F p.G q.G p.g q.g W hp.2.2.1 hq.2.2.1 hp.2.2.2 hq.2.2.2 (hR.all.2.2.2.below hb) (hR'.all.2.2.2.below hb))
  unfold PbSame
  clear hR hR' hp hq hP
  generalize sameM p.m q.m = r1 at *
  generalize sameQL p.K q.K = r2 at *
  generalize sameQL p.F q.F = r3 at *
  cases r1 with
  | false =>
    go_enter Try.func7, Try.ntmps7
    go_wp2_with fail
    have kb := ba2 w (.cells #[.slice p.m.A p.m.L.length p.m.c, .slice p.m.B p.m.T.length p.m.d, .slice p.E p.K.length p.e, .slice p.G p.F.length p.g] 37) (.cells #[.slice q.m.A q.m.L.length q.m.c, .slice q.m.B q.m.T.length q.m.d, .slice q.E q.K.length q.e, .slice q.G q.F.length q.g] 37)
    obtain ⟨P_a, P_b⟩ := blocks2 w (.cells #[.slice p.m.A p.m.L.length p.m.c, .slice p.m.B p.m.T.length p.m.d, .slice p.E p.K.length p.e, .slice p.G p.F.length p.g] 37) (.cells #[.slice q.m.A q.m.L.length q.m.c, .slice q.m.B q.m.T.length q.m.d, .slice q.E q.K.length q.e, .slice q.G q.F.length q.g] 37)
    generalize (w.alloc (.cells #[.slice p.m.A p.m.L.length p.m.c, .slice p.m.B p.m.T.length p.m.d, .slice p.E p.K.length p.e, .slice p.G p.F.length p.g] 37)).alloc (.cells #[.slice q.m.A q.m.L.length q.m.c, .slice q.m.B q.m.T.length q.m.d, .slice q.E q.K.length q.e, .slice q.G q.F.length q.g] 37) = W1 at kb P_a P_b ⊢
    refine (HM.out _ kb).mono ?_
    rintro e W2 ⟨rfl, hb⟩
    have hzW2 : W1.heap.size ≤ W2.heap.size := hb.size
    replace P_a := rblk_below P_a hb
    replace P_b := rblk_below P_b hb
    replace kb := bt kb hb
    clear hb
    go_wp2
    go_ret
    exact ⟨rfl, kb⟩
  | true =>
    cases r2 with
    | false =>
      go_enter Try.func7, Try.ntmps7
      go_wp2_with fail
      have kb := ba2 w (.cells #[.slice p.m.A p.m.L.length p.m.c, .slice p.m.B p.m.T.length p.m.d, .slice p.E p.K.length p.e, .slice p.G p.F.length p.g] 37) (.cells #[.slice q.m.A q.m.L.length q.m.c, .slice q.m.B q.m.T.length q.m.d, .slice q.E q.K.length q.e, .slice q.G q.F.length q.g] 37)
      obtain ⟨P_a, P_b⟩ := blocks2 w (.cells #[.slice p.m.A p.m.L.length p.m.c, .slice p.m.B p.m.T.length p.m.d, .slice p.E p.K.length p.e, .slice p.G p.F.length p.g] 37) (.cells #[.slice q.m.A q.m.L.length q.m.c, .slice q.m.B q.m.T.length q.m.d, .slice q.E q.K.length q.e, .slice q.G q.F.length q.g] 37)
      generalize (w.alloc (.cells #[.slice p.m.A p.m.L.length p.m.c, .slice p.m.B p.m.T.length p.m.d, .slice p.E p.K.length p.e, .slice p.G p.F.length p.g] 37)).alloc (.cells #[.slice q.m.A q.m.L.length q.m.c, .slice q.m.B q.m.T.length q.m.d, .slice q.E q.K.length q.e, .slice q.G q.F.length q.g] 37) = W1 at kb P_a P_b ⊢
      refine (HM.out _ kb).mono ?_
      rintro e W2 ⟨rfl, hb⟩
      have hzW2 : W1.heap.size ≤ W2.heap.size := hb.size
      replace P_a := rblk_below P_a hb
      replace P_b := rblk_below P_b hb
      replace kb := bt kb hb
      clear hb
      have c_a0 : W2.cell? ⟨w.heap.size, 0, none⟩ = some (.slice p.m.A p.m.L.length p.m.c) := rblk_cell P_a 0
      have c_a1 : W2.cell? ⟨w.heap.size, 1, none⟩ = some (.slice p.m.B p.m.T.length p.m.d) := rblk_cell P_a 1
      have c_a2 : W2.cell? ⟨w.heap.size, 2, none⟩ = some (.slice p.E p.K.length p.e) := rblk_cell P_a 2
      have c_a3 : W2.cell? ⟨w.heap.size, 3, none⟩ = some (.slice p.G p.F.length p.g) := rblk_cell P_a 3
      have c_b0 : W2.cell? ⟨w.heap.size + 1, 0, none⟩ = some (.slice q.m.A q.m.L.length q.m.c) := rblk_cell P_b 0
      have c_b1 : W2.cell? ⟨w.heap.size + 1, 1, none⟩ = some (.slice q.m.B q.m.T.length q.m.d) := rblk_cell P_b 1
      have c_b2 : W2.cell? ⟨w.heap.size + 1, 2, none⟩ = some (.slice q.E q.K.length q.e) := rblk_cell P_b 2
      have c_b3 : W2.cell? ⟨w.heap.size + 1, 3, none⟩ = some (.slice q.G q.F.length q.g) := rblk_cell P_b 3
      go_wp2_with fail
      clear c_a0 c_a1 c_a2 c_a3 c_b0 c_b1 c_b2 c_b3
      refine (HK.out _ kb).mono ?_
      rintro e W3 ⟨rfl, hb⟩
      have hzW3 : W2.heap.size ≤ W3.heap.size := hb.size
      replace P_a := rblk_below P_a hb
      replace P_b := rblk_below P_b hb
      replace kb := bt kb hb
      clear hb
      go_wp2
      go_ret
      exact ⟨rfl, kb⟩
    | true =>
      go_enter Try.func7, Try.ntmps7
      go_wp2_with fail
      have kb := ba2 w (.cells #[.slice p.m.A p.m.L.length p.m.c, .slice p.m.B p.m.T.length p.m.d, .slice p.E p.K.length p.e, .slice p.G p.F.length p.g] 37) (.cells #[.slice q.m.A q.m.L.length q.m.c, .slice q.m.B q.m.T.length q.m.d, .slice q.E q.K.length q.e, .slice q.G q.F.length q.g] 37)
      obtain ⟨P_a, P_b⟩ := blocks2 w (.cells #[.slice p.m.A p.m.L.length p.m.c, .slice p.m.B p.m.T.length p.m.d, .slice p.E p.K.length p.e, .slice p.G p.F.length p.g] 37) (.cells #[.slice q.m.A q.m.L.length q.m.c, .slice q.m.B q.m.T.length q.m.d, .slice q.E q.K.length q.e, .slice q.G q.F.length q.g] 37)
      generalize (w.alloc (.cells #[.slice p.m.A p.m.L.length p.m.c, .slice p.m.B p.m.T.length p.m.d, .slice p.E p.K.length p.e, .slice p.G p.F.length p.g] 37)).alloc (.cells #[.slice q.m.A q.m.L.length q.m.c, .slice q.m.B q.m.T.length q.m.d, .slice q.E q.K.length q.e, .slice q.G q.F.length q.g] 37) = W1 at kb P_a P_b ⊢
      refine (HM.out _ kb).mono ?_
      rintro e W2 ⟨rfl, hb⟩
      have hzW2 : W1.heap.size ≤ W2.heap.size := hb.size
      replace P_a := rblk_below P_a hb
      replace P_b := rblk_below P_b hb
      replace kb := bt kb hb
      clear hb
      have c_a0 : W2.cell? ⟨w.heap.size, 0, none⟩ = some (.slice p.m.A p.m.L.length p.m.c) := rblk_cell P_a 0
      have c_a1 : W2.cell? ⟨w.heap.size, 1, none⟩ = some (.slice p.m.B p.m.T.length p.m.d) := rblk_cell P_a 1
      have c_a2 : W2.cell? ⟨w.heap.size, 2, none⟩ = some (.slice p.E p.K.length p.e) := rblk_cell P_a 2
      have c_a3 : W2.cell? ⟨w.heap.size, 3, none⟩ = some (.slice p.G p.F.length p.g) := rblk_cell P_a 3
      have c_b0 : W2.cell? ⟨w.heap.size + 1, 0, none⟩ = some (.slice q.m.A q.m.L.length q.m.c) := rblk_cell P_b 0
      have c_b1 : W2.cell? ⟨w.heap.size + 1, 1, none⟩ = some (.slice q.m.B q.m.T.length q.m.d) := rblk_cell P_b 1
      have c_b2 : W2.cell? ⟨w.heap.size + 1, 2, none⟩ = some (.slice q.E q.K.length q.e) := rblk_cell P_b 2
      have c_b3 : W2.cell? ⟨w.heap.size + 1, 3, none⟩ = some (.slice q.G q.F.length q.g) := rblk_cell P_b 3
      go_wp2_with fail
      clear c_a0 c_a1 c_a2 c_a3 c_b0 c_b1 c_b2 c_b3
      refine (HK.out _ kb).mono ?_
      rintro e W3 ⟨rfl, hb⟩
      have hzW3 : W2.heap.size ≤ W3.heap.size := hb.size
      replace P_a := rblk_below P_a hb
      replace P_b := rblk_below P_b hb
      replace kb := bt kb hb
      clear hb
      have c_a0 : W3.cell? ⟨w.heap.size, 0, none⟩ = some (.slice p.m.A p.m.L.length p.m.c) := rblk_cell P_a 0
      have c_a1 : W3.cell? ⟨w.heap.size, 1, none⟩ = some (.slice p.m.B p.m.T.length p.m.d) := rblk_cell P_a 1
      have c_a2 : W3.cell? ⟨w.heap.size, 2, none⟩ = some (.slice p.E p.K.length p.e) := rblk_cell P_a 2
      have c_a3 : W3.cell? ⟨w.heap.size, 3, none⟩ = some (.slice p.G p.F.length p.g) := rblk_cell P_a 3
      have c_b0 : W3.cell? ⟨w.heap.size + 1, 0, none⟩ = some (.slice q.m.A q.m.L.length q.m.c) := rblk_cell P_b 0
      have c_b1 : W3.cell? ⟨w.heap.size + 1, 1, none⟩ = some (.slice q.m.B q.m.T.length q.m.d) := rblk_cell P_b 1
      have c_b2 : W3.cell? ⟨w.heap.size + 1, 2, none⟩ = some (.slice q.E q.K.length q.e) := rblk_cell P_b 2
      have c_b3 : W3.cell? ⟨w.heap.size + 1, 3, none⟩ = some (.slice q.G q.F.length q.g) := rblk_cell P_b 3
      go_wp2_with fail
      clear c_a0 c_a1 c_a2 c_a3 c_b0 c_b1 c_b2 c_b3
      refine (HF.out _ kb).mono ?_
      rintro e W4 ⟨rfl, hb⟩
      have hzW4 : W3.heap.size ≤ W4.heap.size := hb.size
      replace P_a := rblk_below P_a hb
      replace P_b := rblk_below P_b hb
      replace kb := bt kb hb
      clear hb
      go_wp2
      go_ret
      exact ⟨rfl, kb⟩
end Go.Proofs.Ytoknolholccamaa
