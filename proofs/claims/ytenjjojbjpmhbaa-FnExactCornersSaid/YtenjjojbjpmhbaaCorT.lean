/-
  The corners of a triangle of a mesh: the program's 'triangle'.
-/
import Derived.Test.YtenjjojbjpmhbaaCor0
import Derived.Test.YtenjjojbjpmhbaaTk
namespace Go.Proofs.Ytenjjojbjpmhbaa
open Go.ChangeShapes Go.WideShapes Go.ChangeAt Go.RowKit
open Go.ChangeMaps (open_string shut_string)
set_option linter.unusedVariables false
set_option linter.unusedSimpArgs false
set_option maxRecDepth 4000

theorem trg_agg (w : World) : (isAgg 58).run Try.prog w = .ok true w := by simp [isAgg, run_underlying Try.underlying58]
theorem trg_size : (Try.prog.info? 58).map (·.size) = some 18 := by kernel_rfl
theorem wp_store_big {P : Program} {o : Oper} {a : Act} {w : World} {K : Act → World → Prop} {Q : Exit → Act → World → Prop} (ty : TypeId) (x y : Operand) (ho : o.op = .store ty x y)
    (g : Nat) (cells : Array Value) (hx : a.eval x = .pointer (some ⟨g, 0, none⟩)) (hy : a.eval y = .agg cells)
    (t : TypeId) (old : Array Value) (hg : w.heap[g]? = some (.cells old t (0, 0))) (hi : (P.info? ty).map (·.size) = some cells.size)
    (hold : cells.size = old.size) (h1 : cells.all (·.oneCell') = true)
    (h : K (a.put o.dst undef) (w.setRow g cells)) : o.wp P a w K Q := by
  have e : (old.toList.take 0 ++ (cells.toList ++ old.toList.drop (0 + cells.size))).toArray = cells := by
    rw [List.take_zero, List.nil_append, List.drop_of_length_le (by rw [Array.length_toList]; omega), List.append_nil]
  have hr := run_storeVar_at (P := P) w g 0 t ty old cells hg hi (by omega) h1
  rw [e] at hr
  unfold Oper.wp execOp
  simp only [ho, hx, hy, Instr.storeAt, Instr.sureAddr, Sem.run_bind, Sem.run_pure, Result.andThen_ok, hr]
  exact h
set_option maxHeartbeats 2000000 in
theorem meshTri_r (L : List PV) (T : List TV) (A B : Option Addr) (c d m i j l : Nat) (r0 l0 : Int) (p q r : PV) (w : World) (hL : L.length ≤ 1048576) (hT : T.length ≤ 1048576) (ht : T[m]? = some ⟨i, j, l, r0, l0⟩) (hp : L[i]? = some p) (hq : L[j]? = some q) (hr : L[l]? = some r) (hA : RdS w A (flat L)) (hB : RdS w B (flatT T)) :
    Calls Try.prog 25 #[.agg #[.slice A L.length c, .slice B T.length d], .int .i64 (m : Int)] w (fun e w' => e = .returned (.agg #[.bool p.x.p, .slice p.a.A p.x.l.length p.a.c, .slice p.a.D p.x.m.length p.a.d, .bool p.y.p, .slice p.b.A p.y.l.length p.b.c, .slice p.b.D p.y.m.length p.b.d, .bool q.x.p, .slice q.a.A q.x.l.length q.a.c, .slice q.a.D q.x.m.length q.a.d, .bool q.y.p, .slice q.b.A q.y.l.length q.b.c, .slice q.b.D q.y.m.length q.b.d, .bool r.x.p, .slice r.a.A r.x.l.length r.a.c, .slice r.a.D r.x.m.length r.a.d, .bool r.y.p, .slice r.b.A r.y.l.length r.b.c, .slice r.b.D r.y.m.length r.b.d]) ∧ Below w.heap.size w w') := by
  have lm := lt_of_getT ht
  have li := lt_of_getP hp
  have lj := lt_of_getP hq
  have ll := lt_of_getP hr
  obtain ⟨g, o, rfl, hg, c0, c1, c2, c3, c4, c5⟩ := hA.six hp
  obtain ⟨_, _, hq0, _, d0, d1, d2, d3, d4, d5⟩ := hA.six hq
  obtain ⟨_, _, hr0, _, e0, e1, e2, e3, e4, e5⟩ := hA.six hr
  cases hq0
  cases hr0
  obtain ⟨g', o', rfl, hg', f0, f1, f2, f3, f4⟩ := hB.five ht
  clear hA hB hp hq hr ht
  generalize L.length = n at *
  generalize T.length = k at *
  have hm0 : (0 : Int) ≤ (m : Int) := by omega
  have hm1 : (m : Int) < (k : Int) := by omega
  have hi0 : (0 : Int) ≤ (i : Int) := by omega
  have hi1 : (i : Int) < (n : Int) := by omega
  have hj0 : (0 : Int) ≤ (j : Int) := by omega
  have hj1 : (j : Int) < (n : Int) := by omega
  have hl0 : (0 : Int) ≤ (l : Int) := by omega
  have hl1 : (l : Int) < (n : Int) := by omega
  go_enter Try.func25, Try.ntmps25
  go_wp2_with fail
  have kb := ba3 w (.cells #[.slice (some ⟨g, o, none⟩) n c, .slice (some ⟨g', o', none⟩) k d] 31) (.cells #[.bool false, .slice none 0 0, .slice none 0 0, .bool false, .slice none 0 0, .slice none 0 0, .bool false, .slice none 0 0, .slice none 0 0, .bool false, .slice none 0 0, .slice none 0 0, .bool false, .slice none 0 0, .slice none 0 0, .bool false, .slice none 0 0, .slice none 0 0] 58) (.cells #[.int .i64 (i : Int), .int .i64 (j : Int), .int .i64 (l : Int), .int .i64 r0, .int .i64 l0] 45)
  obtain ⟨P_a, P_o, P_t⟩ := blocks3 w (.cells #[.slice (some ⟨g, o, none⟩) n c, .slice (some ⟨g', o', none⟩) k d] 31) (.cells #[.bool false, .slice none 0 0, .slice none 0 0, .bool false, .slice none 0 0, .slice none 0 0, .bool false, .slice none 0 0, .slice none 0 0, .bool false, .slice none 0 0, .slice none 0 0, .bool false, .slice none 0 0, .slice none 0 0, .bool false, .slice none 0 0, .slice none 0 0] 58) (.cells #[.int .i64 (i : Int), .int .i64 (j : Int), .int .i64 (l : Int), .int .i64 r0, .int .i64 l0] 45)
  generalize ((w.alloc (.cells #[.slice (some ⟨g, o, none⟩) n c, .slice (some ⟨g', o', none⟩) k d] 31)).alloc (.cells #[.bool false, .slice none 0 0, .slice none 0 0, .bool false, .slice none 0 0, .slice none 0 0, .bool false, .slice none 0 0, .slice none 0 0, .bool false, .slice none 0 0, .slice none 0 0, .bool false, .slice none 0 0, .slice none 0 0, .bool false, .slice none 0 0, .slice none 0 0] 58)).alloc (.cells #[.int .i64 (i : Int), .int .i64 (j : Int), .int .i64 (l : Int), .int .i64 r0, .int .i64 l0] 45) = W1 at kb P_a P_o P_t ⊢
  have C := Lib.hid (And.intro c0 (And.intro c1 (And.intro c2 (And.intro c3 (And.intro c4 c5)))))
  have D := Lib.hid (And.intro d0 (And.intro d1 (And.intro d2 (And.intro d3 (And.intro d4 d5)))))
  have E := Lib.hid (And.intro e0 (And.intro e1 (And.intro e2 (And.intro e3 (And.intro e4 e5)))))
  clear c0 c1 c2 c3 c4 c5 d0 d1 d2 d3 d4 d5 e0 e1 e2 e3 e4 e5 f0 f1 f2 f3 f4
  refine wp_region_held_drew (S := fun w' => w'.heap[w.heap.size]? = some (.cells #[.slice (some ⟨g, o, none⟩) n c, .slice (some ⟨g', o', none⟩) k d] 31 (0, 0)) ∧ w'.heap[w.heap.size + 1 + 1]? = some (.cells #[.int .i64 (i : Int), .int .i64 (j : Int), .int .i64 (l : Int), .int .i64 r0, .int .i64 l0] 45 (0, 0)) ∧ Below w.heap.size w w') (by kernel_rfl) ⟨P_a, P_t, kb.drew⟩ (fun hHeld => ?_)
  clear P_a P_t kb
  replace P_o : W1.drew.heap[w.heap.size + 1]? = _ := P_o
  generalize W1.drew = Wd at *
  refine tk (i := 0) (v := ?vg1_1) rfl (by kernel_rfl) (fun _ _ _ h => h) (Or.inl ⟨by rfl, ?hg1_1⟩) hHeld ?_
  case hg1_1 => (intro w hSw; (try dsimp only at hSw); clear hSw; go_simp; (try with_reducible rfl))
  try simp only [ps]
  refine tk (i := 1) (v := ?vg1_2) rfl (by kernel_rfl) (fun _ _ _ h => h) (Or.inl ⟨by rfl, ?hg1_2⟩) hHeld ?_
  case hg1_2 => (intro w hSw; (try dsimp only at hSw); have z0 := rblk_cell hSw.1 0; clear hSw; go_simp; (try with_reducible rfl))
  try simp only [ps]
  refine tk (i := 2) (v := ?vg1_3) rfl (by kernel_rfl) (fun _ _ _ h => h) (Or.inl ⟨by rfl, ?hg1_3⟩) hHeld ?_
  case hg1_3 => (intro w hSw; (try dsimp only at hSw); clear hSw; go_simp; (try with_reducible rfl))
  try simp only [ps]
  refine tk (i := 3) (v := ?vg1_4) rfl (by kernel_rfl) (fun _ _ _ h => h) (Or.inl ⟨by rfl, ?hg1_4⟩) hHeld ?_
  case hg1_4 => (intro w hSw; (try dsimp only at hSw); have z0 := rblk_cell hSw.2.1 0; clear hSw; go_simp; (try with_reducible rfl))
  try simp only [ps]
  refine tk (i := 4) (v := ?vg1_5) rfl (by kernel_rfl) (fun _ _ _ h => h) (Or.inl ⟨by rfl, ?hg1_5⟩) hHeld ?_
  case hg1_5 => (intro w hSw; (try dsimp only at hSw); clear hSw; go_simp; (try with_reducible rfl))
  try simp only [ps]
  refine tk (i := 5) (v := ?vg1_6) rfl (by kernel_rfl) (fun _ _ _ h => h) (Or.inl ⟨by rfl, ?hg1_6⟩) hHeld ?_
  case hg1_6 => (intro w hSw; (try dsimp only at hSw); have za0 := below_cell hSw.2.2 C.out.1; have za1 := below_cell hSw.2.2 C.out.2.1; have za2 := below_cell hSw.2.2 C.out.2.2.1; have za3 := below_cell hSw.2.2 C.out.2.2.2.1; have za4 := below_cell hSw.2.2 C.out.2.2.2.2.1; have za5 := below_cell hSw.2.2 C.out.2.2.2.2.2; clear hSw; go_simp; (try with_reducible rfl))
  try simp only [ps]
  refine tk (i := 6) (v := ?vg1_7) rfl (by kernel_rfl) (fun _ _ _ h => h) (Or.inl ⟨by rfl, ?hg1_7⟩) hHeld ?_
  case hg1_7 => (intro w hSw; (try dsimp only at hSw); clear hSw; go_simp; (try with_reducible rfl))
  try simp only [ps]
  refine tk (i := 7) (v := ?vg1_8) rfl (by kernel_rfl) (fun _ _ _ h => h) (Or.inl ⟨by rfl, ?hg1_8⟩) hHeld ?_
  case hg1_8 => (intro w hSw; (try dsimp only at hSw); have z0 := rblk_cell hSw.1 0; clear hSw; go_simp; (try with_reducible rfl))
  try simp only [ps]
  refine tk (i := 8) (v := ?vg1_9) rfl (by kernel_rfl) (fun _ _ _ h => h) (Or.inl ⟨by rfl, ?hg1_9⟩) hHeld ?_
  case hg1_9 => (intro w hSw; (try dsimp only at hSw); clear hSw; go_simp; (try with_reducible rfl))
  try simp only [ps]
  refine tk (i := 9) (v := ?vg1_10) rfl (by kernel_rfl) (fun _ _ _ h => h) (Or.inl ⟨by rfl, ?hg1_10⟩) hHeld ?_
  case hg1_10 => (intro w hSw; (try dsimp only at hSw); have z0 := rblk_cell hSw.2.1 1; clear hSw; go_simp; (try with_reducible rfl))
  try simp only [ps]
  refine tk (i := 10) (v := ?vg1_11) rfl (by kernel_rfl) (fun _ _ _ h => h) (Or.inl ⟨by rfl, ?hg1_11⟩) hHeld ?_
  case hg1_11 => (intro w hSw; (try dsimp only at hSw); clear hSw; go_simp; (try with_reducible rfl))
  try simp only [ps]
  refine tk (i := 11) (v := ?vg1_12) rfl (by kernel_rfl) (fun _ _ _ h => h) (Or.inl ⟨by rfl, ?hg1_12⟩) hHeld ?_
  case hg1_12 => (intro w hSw; (try dsimp only at hSw); have za0 := below_cell hSw.2.2 D.out.1; have za1 := below_cell hSw.2.2 D.out.2.1; have za2 := below_cell hSw.2.2 D.out.2.2.1; have za3 := below_cell hSw.2.2 D.out.2.2.2.1; have za4 := below_cell hSw.2.2 D.out.2.2.2.2.1; have za5 := below_cell hSw.2.2 D.out.2.2.2.2.2; clear hSw; go_simp; (try with_reducible rfl))
  try simp only [ps]
  refine tk (i := 12) (v := ?vg1_13) rfl (by kernel_rfl) (fun _ _ _ h => h) (Or.inl ⟨by rfl, ?hg1_13⟩) hHeld ?_
  case hg1_13 => (intro w hSw; (try dsimp only at hSw); clear hSw; go_simp; (try with_reducible rfl))
  try simp only [ps]
  refine tk (i := 13) (v := ?vg1_14) rfl (by kernel_rfl) (fun _ _ _ h => h) (Or.inl ⟨by rfl, ?hg1_14⟩) hHeld ?_
  case hg1_14 => (intro w hSw; (try dsimp only at hSw); have z0 := rblk_cell hSw.1 0; clear hSw; go_simp; (try with_reducible rfl))
  try simp only [ps]
  refine tk (i := 14) (v := ?vg1_15) rfl (by kernel_rfl) (fun _ _ _ h => h) (Or.inl ⟨by rfl, ?hg1_15⟩) hHeld ?_
  case hg1_15 => (intro w hSw; (try dsimp only at hSw); clear hSw; go_simp; (try with_reducible rfl))
  try simp only [ps]
  refine tk (i := 15) (v := ?vg1_16) rfl (by kernel_rfl) (fun _ _ _ h => h) (Or.inl ⟨by rfl, ?hg1_16⟩) hHeld ?_
  case hg1_16 => (intro w hSw; (try dsimp only at hSw); have z0 := rblk_cell hSw.2.1 2; clear hSw; go_simp; (try with_reducible rfl))
  try simp only [ps]
  refine tk (i := 16) (v := ?vg1_17) rfl (by kernel_rfl) (fun _ _ _ h => h) (Or.inl ⟨by rfl, ?hg1_17⟩) hHeld ?_
  case hg1_17 => (intro w hSw; (try dsimp only at hSw); clear hSw; go_simp; (try with_reducible rfl))
  try simp only [ps]
  refine tk (i := 17) (v := ?vg1_18) rfl (by kernel_rfl) (fun _ _ _ h => h) (Or.inl ⟨by rfl, ?hg1_18⟩) hHeld ?_
  case hg1_18 => (intro w hSw; (try dsimp only at hSw); have za0 := below_cell hSw.2.2 E.out.1; have za1 := below_cell hSw.2.2 E.out.2.1; have za2 := below_cell hSw.2.2 E.out.2.2.1; have za3 := below_cell hSw.2.2 E.out.2.2.2.1; have za4 := below_cell hSw.2.2 E.out.2.2.2.2.1; have za5 := below_cell hSw.2.2 E.out.2.2.2.2.2; clear hSw; go_simp; (try with_reducible rfl))
  try simp only [ps]
  refine tk (i := 18) (v := ?vg1_19) rfl (by kernel_rfl) (fun _ _ _ h => h) (Or.inl ⟨by rfl, ?hg1_19⟩) hHeld ?_
  case hg1_19 => (intro w hSw; (try dsimp only at hSw); clear hSw; go_simp; (try with_reducible rfl))
  try simp only [ps]
  refine rd1 (i := 19) (by kernel_rfl) rfl (fun K hK => ?_)
  refine wp_store_big 58 (.tmp 4) (.tmp 29) rfl (w.heap.size + 1) #[.bool p.x.p, .slice p.a.A p.x.l.length p.a.c, .slice p.a.D p.x.m.length p.a.d, .bool p.y.p, .slice p.b.A p.y.l.length p.b.c, .slice p.b.D p.y.m.length p.b.d, .bool q.x.p, .slice q.a.A q.x.l.length q.a.c, .slice q.a.D q.x.m.length q.a.d, .bool q.y.p, .slice q.b.A q.y.l.length q.b.c, .slice q.b.D q.y.m.length q.b.d, .bool r.x.p, .slice r.a.A r.x.l.length r.a.c, .slice r.a.D r.x.m.length r.a.d, .bool r.y.p, .slice r.b.A r.y.l.length r.b.c, .slice r.b.D r.y.m.length r.b.d] rfl rfl 58 _ P_o trg_size rfl (by simp [Value.oneCell']) ?_
  have P_e := rowV_set P_o #[.bool p.x.p, .slice p.a.A p.x.l.length p.a.c, .slice p.a.D p.x.m.length p.a.d, .bool p.y.p, .slice p.b.A p.y.l.length p.b.c, .slice p.b.D p.y.m.length p.b.d, .bool q.x.p, .slice q.a.A q.x.l.length q.a.c, .slice q.a.D q.x.m.length q.a.d, .bool q.y.p, .slice q.b.A q.y.l.length q.b.c, .slice q.b.D q.y.m.length q.b.d, .bool r.x.p, .slice r.a.A r.x.l.length r.a.c, .slice r.a.D r.x.m.length r.a.d, .bool r.y.p, .slice r.b.A r.y.l.length r.b.c, .slice r.b.D r.y.m.length r.b.d]
  refine hK.out _ _ ⟨rowV_other hHeld.1 (by omega) _, rowV_other hHeld.2.1 (by omega) _, below_setRow hHeld.2.2 (by omega) _⟩ (fun hH => ?_)
  have kE := hH.2.2
  clear hK K hH hHeld P_o
  try simp only [ps]
  refine wpAnyH_done (by kernel_rfl) ?_ _
  go_wp2
  exact bodyPost_ret (v := .agg #[.bool p.x.p, .slice p.a.A p.x.l.length p.a.c, .slice p.a.D p.x.m.length p.a.d, .bool p.y.p, .slice p.b.A p.y.l.length p.b.c, .slice p.b.D p.y.m.length p.b.d, .bool q.x.p, .slice q.a.A q.x.l.length q.a.c, .slice q.a.D q.x.m.length q.a.d, .bool q.y.p, .slice q.b.A q.y.l.length q.b.c, .slice q.b.D q.y.m.length q.b.d, .bool r.x.p, .slice r.a.A r.x.l.length r.a.c, .slice r.a.D r.x.m.length r.a.d, .bool r.y.p, .slice r.b.A r.y.l.length r.b.c, .slice r.b.D r.y.m.length r.b.d]) (results_row Try.results25 _ _ _ #[.bool p.x.p, .slice p.a.A p.x.l.length p.a.c, .slice p.a.D p.x.m.length p.a.d, .bool p.y.p, .slice p.b.A p.y.l.length p.b.c, .slice p.b.D p.y.m.length p.b.d, .bool q.x.p, .slice q.a.A q.x.l.length q.a.c, .slice q.a.D q.x.m.length q.a.d, .bool q.y.p, .slice q.b.A q.y.l.length q.b.c, .slice q.b.D q.y.m.length q.b.d, .bool r.x.p, .slice r.a.A r.x.l.length r.a.c, .slice r.a.D r.x.m.length r.a.d, .bool r.y.p, .slice r.b.A r.y.l.length r.b.c, .slice r.b.D r.y.m.length r.b.d] (by rfl) trg_agg (run_size trg_size) P_e) rfl ⟨rfl, kE⟩
end Go.Proofs.Ytenjjojbjpmhbaa
