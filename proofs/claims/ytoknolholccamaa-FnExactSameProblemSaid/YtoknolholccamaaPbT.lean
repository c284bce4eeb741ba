/-
  The harness' copy of a problem.
-/
import Derived.Test.YtoknolholccamaaPb
import Derived.Test.YtoknolholccamaaMsT
import Derived.Test.YtoknolholccamaaRlT
namespace Go.Proofs.Ytoknolholccamaa
open Go.ChangeShapes Go.WideShapes Go.ChangeAt Go.RowKit
open Go.ChangeMaps (open_string shut_string)
set_option linter.unusedVariables false
set_option linter.unusedSimpArgs false
set_option maxRecDepth 4000

/-- A copy of a problem that the call made. -/
def PbMade (p : PB) (w : World) (e : Ending) (w' : World) : Prop :=
  ∃ n : PB, e = .returned (.agg #[.slice n.m.A n.m.L.length n.m.c, .slice n.m.B n.m.T.length n.m.d, .slice n.E n.K.length n.e, .slice n.G n.F.length n.g]) ∧ PbDat n = PbDat p ∧ (∀ q, q ∈ n.m.L → Pin q.a ∧ Pin q.b) ∧ PbRd w' n ∧ Below w.heap.size w w'
set_option maxHeartbeats 2000000 in
theorem toPb_p (p : PB) (w : World) (hp : PbShort p) (hR : PbRd w p) :
    Calls Try.prog 6 #[.agg #[.slice p.m.A p.m.L.length p.m.c, .slice p.m.B p.m.T.length p.m.d, .slice p.E p.K.length p.e, .slice p.G p.F.length p.g]] w (PbMade p w) := by
  have TM : Hid (∀ W, Below w.heap.size w W → Calls Try.prog 13 #[.agg #[.slice p.m.A p.m.L.length p.m.c, .slice p.m.B p.m.T.length p.m.d]] W (MadeM W.heap.size p.m W)) := Lib.hid (fun W hb => toMesh_r p.m W hp.1 (hR.all.1.below hb) (hR.all.2.1.hd.below hb))
  have TK : Hid (∀ W, Below w.heap.size w W → Calls Try.prog 14 #[.slice p.E p.K.length p.e] W (MadeRS W.heap.size p.K W)) := Lib.hid (fun W hb => toRS_r p.K p.E p.e W hp.2.1.1 hp.2.1.2 (hR.all.2.2.1.hd.below hb) (hR.all.2.2.1.tl.below hb))
  have TF : Hid (∀ W, Below w.heap.size w W → Calls Try.prog 14 #[.slice p.G p.F.length p.g] W (MadeRS W.heap.size p.F W)) := Lib.hid (fun W hb => toRS_r p.F p.G p.g W hp.2.2.1 hp.2.2.2 (hR.all.2.2.2.hd.below hb) (hR.all.2.2.2.tl.below hb))
  unfold MadeM at TM
  unfold MadeRS at TK TF
  clear hR hp
  go_enter Try.func6, Try.ntmps6
  go_wp2_with fail
  have kb := ba3 w (.cells #[.slice p.m.A p.m.L.length p.m.c, .slice p.m.B p.m.T.length p.m.d, .slice p.E p.K.length p.e, .slice p.G p.F.length p.g] 28) (.cells #[.slice none 0 0, .slice none 0 0, .slice none 0 0, .slice none 0 0] 37) (.cells #[.slice none 0 0, .slice none 0 0, .slice none 0 0, .slice none 0 0] 37)
  obtain ⟨P_a, P_r, P_o⟩ := blocks3 w (.cells #[.slice p.m.A p.m.L.length p.m.c, .slice p.m.B p.m.T.length p.m.d, .slice p.E p.K.length p.e, .slice p.G p.F.length p.g] 28) (.cells #[.slice none 0 0, .slice none 0 0, .slice none 0 0, .slice none 0 0] 37) (.cells #[.slice none 0 0, .slice none 0 0, .slice none 0 0, .slice none 0 0] 37)
  generalize ((w.alloc (.cells #[.slice p.m.A p.m.L.length p.m.c, .slice p.m.B p.m.T.length p.m.d, .slice p.E p.K.length p.e, .slice p.G p.F.length p.g] 28)).alloc (.cells #[.slice none 0 0, .slice none 0 0, .slice none 0 0, .slice none 0 0] 37)).alloc (.cells #[.slice none 0 0, .slice none 0 0, .slice none 0 0, .slice none 0 0] 37) = W1 at kb P_a P_r P_o ⊢
  have hszS := rblk_lt P_o
  refine (TM.out _ kb).mono ?_
  rintro e W2 ⟨n, mid, rfl, hd, hcap, hmid, o1, o2, hap, hb⟩
  replace P_a := rblk_below P_a hb
  replace P_r := rblk_below P_r hb
  replace P_o := rblk_below P_o hb
  replace kb := bt kb hb
  have hszA := hb.size
  clear hb
  have hltO := rblk_lt P_o
  have c_o0 : W2.cell? ⟨w.heap.size + 1 + 1, 0, none⟩ = some (.slice none 0 0) := rblk_cell P_o 0
  have c_o1 : W2.cell? ⟨w.heap.size + 1 + 1, 1, none⟩ = some (.slice none 0 0) := rblk_cell P_o 1
  have c_o2 : W2.cell? ⟨w.heap.size + 1 + 1, 2, none⟩ = some (.slice none 0 0) := rblk_cell P_o 2
  have c_o3 : W2.cell? ⟨w.heap.size + 1 + 1, 3, none⟩ = some (.slice none 0 0) := rblk_cell P_o 3
  have c_a0 : W2.cell? ⟨w.heap.size, 0, none⟩ = some (.slice p.m.A p.m.L.length p.m.c) := rblk_cell P_a 0
  have c_a1 : W2.cell? ⟨w.heap.size, 1, none⟩ = some (.slice p.m.B p.m.T.length p.m.d) := rblk_cell P_a 1
  have c_a2 : W2.cell? ⟨w.heap.size, 2, none⟩ = some (.slice p.E p.K.length p.e) := rblk_cell P_a 2
  have c_a3 : W2.cell? ⟨w.heap.size, 3, none⟩ = some (.slice p.G p.F.length p.g) := rblk_cell P_a 3
  have f_o0 := rblk_free P_o 0
  have f_o1 := rblk_free P_o 1
  have f_o2 := rblk_free P_o 2
  have f_o3 := rblk_free P_o 3
  go_wp2_with fail
  clear c_o0 c_o1 c_o2 c_o3 c_a0 c_a1 c_a2 c_a3 f_o0 f_o1 f_o2 f_o3
  replace P_a := rblk_other (rblk_other P_a 0 (.slice n.A n.L.length n.c) (show w.heap.size + 1 + 1 ≠ w.heap.size by omega)) 1 (.slice n.B n.T.length n.d) (show w.heap.size + 1 + 1 ≠ w.heap.size by omega)
  replace P_r := rblk_other (rblk_other P_r 0 (.slice n.A n.L.length n.c) (show w.heap.size + 1 + 1 ≠ w.heap.size + 1 by omega)) 1 (.slice n.B n.T.length n.d) (show w.heap.size + 1 + 1 ≠ w.heap.size + 1 by omega)
  replace P_o := rblk_set (rblk_set P_o 0 (.slice n.A n.L.length n.c)) 1 (.slice n.B n.T.length n.d)
  replace o1 := (o1.put (b := w.heap.size + 1 + 1) (o := 0) (by omega) (.slice n.A n.L.length n.c)).put (b := w.heap.size + 1 + 1) (o := 1) (by omega) (.slice n.B n.T.length n.d)
  replace o2 := (o2.put (b := w.heap.size + 1 + 1) (o := 0) (by omega) (.slice n.A n.L.length n.c)).put (b := w.heap.size + 1 + 1) (o := 1) (by omega) (.slice n.B n.T.length n.d)
  replace kb := below_put (o := 1) (below_put (o := 0) kb (show w.heap.size ≤ w.heap.size + 1 + 1 by omega) (.slice n.A n.L.length n.c)) (show w.heap.size ≤ w.heap.size + 1 + 1 by omega) (.slice n.B n.T.length n.d)
  have hszW3 : W2.heap.size = ((W2.setCell ⟨w.heap.size + 1 + 1, 0, none⟩ (.slice n.A n.L.length n.c)).setCell ⟨w.heap.size + 1 + 1, 1, none⟩ (.slice n.B n.T.length n.d)).heap.size := by simp only [put_size]
  generalize (W2.setCell ⟨w.heap.size + 1 + 1, 0, none⟩ (.slice n.A n.L.length n.c)).setCell ⟨w.heap.size + 1 + 1, 1, none⟩ (.slice n.B n.T.length n.d) = W3 at kb hszW3 P_a P_r P_o o1 o2 ⊢
  refine (TK.out _ kb).mono ?_
  rintro e W4 ⟨M, A, c, rfl, hc1, hdK, hcK, o3, ap3, hb⟩
  replace P_a := rblk_below P_a hb
  replace P_r := rblk_below P_r hb
  replace P_o := rblk_below P_o hb
  replace o1 := o1.below hb
  replace o2 := o2.below hb
  replace kb := bt kb hb
  have hszB := hb.size
  clear hb
  have c_o0 : W4.cell? ⟨w.heap.size + 1 + 1, 0, none⟩ = some (.slice n.A n.L.length n.c) := rblk_cell P_o 0
  have c_o1 : W4.cell? ⟨w.heap.size + 1 + 1, 1, none⟩ = some (.slice n.B n.T.length n.d) := rblk_cell P_o 1
  have c_o2 : W4.cell? ⟨w.heap.size + 1 + 1, 2, none⟩ = some (.slice none 0 0) := rblk_cell P_o 2
  have c_o3 : W4.cell? ⟨w.heap.size + 1 + 1, 3, none⟩ = some (.slice none 0 0) := rblk_cell P_o 3
  have c_a0 : W4.cell? ⟨w.heap.size, 0, none⟩ = some (.slice p.m.A p.m.L.length p.m.c) := rblk_cell P_a 0
  have c_a1 : W4.cell? ⟨w.heap.size, 1, none⟩ = some (.slice p.m.B p.m.T.length p.m.d) := rblk_cell P_a 1
  have c_a2 : W4.cell? ⟨w.heap.size, 2, none⟩ = some (.slice p.E p.K.length p.e) := rblk_cell P_a 2
  have c_a3 : W4.cell? ⟨w.heap.size, 3, none⟩ = some (.slice p.G p.F.length p.g) := rblk_cell P_a 3
  have f_o0 := rblk_free P_o 0
  have f_o1 := rblk_free P_o 1
  have f_o2 := rblk_free P_o 2
  have f_o3 := rblk_free P_o 3
  go_wp2_with fail
  clear c_o0 c_o1 c_o2 c_o3 c_a0 c_a1 c_a2 c_a3 f_o0 f_o1 f_o2 f_o3
  replace P_a := rblk_other P_a 2 (.slice A M.length c) (show w.heap.size + 1 + 1 ≠ w.heap.size by omega)
  replace P_r := rblk_other P_r 2 (.slice A M.length c) (show w.heap.size + 1 + 1 ≠ w.heap.size + 1 by omega)
  replace P_o := rblk_set P_o 2 (.slice A M.length c)
  replace o1 := o1.put (b := w.heap.size + 1 + 1) (o := 2) (by omega) (.slice A M.length c)
  replace o2 := o2.put (b := w.heap.size + 1 + 1) (o := 2) (by omega) (.slice A M.length c)
  replace o3 := o3.put (b := w.heap.size + 1 + 1) (o := 2) (by omega) (.slice A M.length c)
  replace kb := below_put (o := 2) kb (show w.heap.size ≤ w.heap.size + 1 + 1 by omega) (.slice A M.length c)
  have hszW5 : W4.heap.size = (W4.setCell ⟨w.heap.size + 1 + 1, 2, none⟩ (.slice A M.length c)).heap.size := by simp only [put_size]
  generalize W4.setCell ⟨w.heap.size + 1 + 1, 2, none⟩ (.slice A M.length c) = W5 at kb hszW5 P_a P_r P_o o1 o2 o3 ⊢
  refine (TF.out _ kb).mono ?_
  rintro e W6 ⟨N, B, d, rfl, hc2, hdF, hcF, o4, ap4, hb⟩
  replace P_a := rblk_below P_a hb
  replace P_r := rblk_below P_r hb
  replace P_o := rblk_below P_o hb
  replace o1 := o1.below hb
  replace o2 := o2.below hb
  replace o3 := o3.below hb
  replace kb := bt kb hb
  have hszC := hb.size
  clear hb
  have c_o0 : W6.cell? ⟨w.heap.size + 1 + 1, 0, none⟩ = some (.slice n.A n.L.length n.c) := rblk_cell P_o 0
  have c_o1 : W6.cell? ⟨w.heap.size + 1 + 1, 1, none⟩ = some (.slice n.B n.T.length n.d) := rblk_cell P_o 1
  have c_o2 : W6.cell? ⟨w.heap.size + 1 + 1, 2, none⟩ = some (.slice A M.length c) := rblk_cell P_o 2
  have c_o3 : W6.cell? ⟨w.heap.size + 1 + 1, 3, none⟩ = some (.slice none 0 0) := rblk_cell P_o 3
  have c_r0 : W6.cell? ⟨w.heap.size + 1, 0, none⟩ = some (.slice none 0 0) := rblk_cell P_r 0
  have c_r1 : W6.cell? ⟨w.heap.size + 1, 1, none⟩ = some (.slice none 0 0) := rblk_cell P_r 1
  have c_r2 : W6.cell? ⟨w.heap.size + 1, 2, none⟩ = some (.slice none 0 0) := rblk_cell P_r 2
  have c_r3 : W6.cell? ⟨w.heap.size + 1, 3, none⟩ = some (.slice none 0 0) := rblk_cell P_r 3
  have f_o0 := rblk_free P_o 0
  have f_o1 := rblk_free P_o 1
  have f_o2 := rblk_free P_o 2
  have f_o3 := rblk_free P_o 3
  have f_r0 := rblk_free P_r 0
  have f_r1 := rblk_free P_r 1
  have f_r2 := rblk_free P_r 2
  have f_r3 := rblk_free P_r 3
  go_wp2
  exact bodyPost_ret (v := .agg #[.slice n.A n.L.length n.c, .slice n.B n.T.length n.d, .slice A M.length c, .slice B N.length d]) (by simp [results, Try.results6, go_sem, c_r0, c_r1, c_r2, c_r3]) rfl ⟨⟨n, M, A, c, N, B, d⟩, rfl, by unfold PbDat; rw [hd, hdK, hdF], fun q hq => (hcap.2.2 q hq).2, ⟨⟨(((((o1.put (by omega) _).put (by omega) _).put (by omega) _).put (by omega) _).put (by omega) _).rds, (((((o2.put (by omega) _).put (by omega) _).put (by omega) _).put (by omega) _).put (by omega) _).rds, (((((o3.put (by omega) _).put (by omega) _).put (by omega) _).put (by omega) _).put (by omega) _).rds, (((((o4.put (by omega) _).put (by omega) _).put (by omega) _).put (by omega) _).put (by omega) _).rds⟩⟩, (below_put (below_put (below_put (below_put (below_put kb (by omega) _) (by omega) _) (by omega) _) (by omega) _) (by omega) _)⟩
end Go.Proofs.Ytoknolholccamaa
