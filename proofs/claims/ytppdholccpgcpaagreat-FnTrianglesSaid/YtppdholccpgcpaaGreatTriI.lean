/-
  The program's functions of triangles: IsProper, triangleOf, doubleArea, AreaOf.
-/
import Derived.Test.YtppdholccpgcpaaGreatWg
import Derived.Test.YtppdholccpgcpaaGreatLawP
import Derived.Test.YtppdholccpgcpaaGreatTri
import Derived.Test.YtppdholccpgcpaaGreatStore
import Derived.Laws.Cover3
namespace Go.Proofs.YtppdholccpgcpaaGreat
set_option maxHeartbeats 1000000
open Go.ChangeShapes Go.WideShapes Go.ChangeAt Go.RowKit
set_option linter.unusedVariables false
set_option linter.unusedSimpArgs false
set_option maxRecDepth 4000
attribute [local go_sem ↓] Go.wp_at_zero Go.wp_at_succ
theorem rd_row {w : World} {g o : Nat} {p q r : PV} (h : RdS w (some ⟨g, o, none⟩) (flat [p, q, r])) : ∀ j, j < ((p18 p q r) : Array Value).size → w.cell? ⟨g, o + j, none⟩ = ((p18 p q r) : Array Value)[j]? := fun j hj => by
  obtain ⟨g', o', ha, hg, hc⟩ := h.block (by rw [flat_length]; show 0 < 3 * 6; omega)
  injection ha with e
  injection e with e1 e2
  subst e1; subst e2
  rw [hc j (by rw [flat_length]; exact hj)]
  show (flat [p, q, r])[j]? = ([.bool p.x.p, .slice p.a.A p.x.l.length p.a.c, .slice p.a.D p.x.m.length p.a.d, .bool p.y.p, .slice p.b.A p.y.l.length p.b.c, .slice p.b.D p.y.m.length p.b.d, .bool q.x.p, .slice q.a.A q.x.l.length q.a.c, .slice q.a.D q.x.m.length q.a.d, .bool q.y.p, .slice q.b.A q.y.l.length q.b.c, .slice q.b.D q.y.m.length q.b.d, .bool r.x.p, .slice r.a.A r.x.l.length r.a.c, .slice r.a.D r.x.m.length r.a.d, .bool r.y.p, .slice r.b.A r.y.l.length r.b.c, .slice r.b.D r.y.m.length r.b.d] : List Value).toArray[j]?
  rw [List.getElem?_toArray]
  rfl
theorem impl_proper (L : List PV) (A : Option Addr) (c : Nat) (w : World) (hn : L.length ≤ 9223372036854775807) (hL : ∀ p, p ∈ L → LenP p) (hA : RdS w A (flat L)) (hR : Rds w (lrow L)) :
    Calls Tryz.prog 15 #[.slice A L.length c] w (fun e w' => e = .returned (.bool (properB L)) ∧ Below w.heap.size w w') := by
  by_cases h3 : L.length = 3
  · obtain ⟨p, q, r, rfl⟩ := three_of_len h3
    obtain ⟨g, o, rfl, hg, c0, c1, c2, c3, c4, c5, c6, c7, c8, c9, c10, c11, c12, c13, c14, c15, c16, c17⟩ := hA.tri
    have HA := Lib.hid (fun W h1 h2 h3 => impl_areaV p q r W (hL p (by simp)) (hL q (by simp)) (hL r (by simp)) h1 h2 h3)
    have HS := Lib.hid (fun a W h => sign_r (aV p q r) a W (aV_fit p q r) h)
    have RR : Hid (∀ W, Below w.heap.size w W → Rds W (prow p) ∧ Rds W (prow q) ∧ Rds W (prow r)) := Lib.hid (fun W hB => ⟨(hR.at (i := 0) rfl).below hB, (hR.at (i := 1) rfl).below hB, (hR.at (i := 2) rfl).below hB⟩)
    show Calls Tryz.prog 15 #[.slice (some ⟨g, o, none⟩) 3 c] w (fun e w' => e = .returned (.bool (decide (0 < sgnO (aV p q r)))) ∧ Below w.heap.size w w')
    generalize sgnO (aV p q r) = sg at HS ⊢
    generalize ofO (aV p q r) = U at HA HS
    have SB : Hid (∀ w', Below w.heap.size w w' → (w'.cell? ⟨g, o, none⟩ = some (.bool p.x.p) ∧ w'.cell? ⟨g, o + 1, none⟩ = some (.slice p.a.A p.x.l.length p.a.c) ∧ w'.cell? ⟨g, o + 2, none⟩ = some (.slice p.a.D p.x.m.length p.a.d) ∧ w'.cell? ⟨g, o + 3, none⟩ = some (.bool p.y.p) ∧ w'.cell? ⟨g, o + 4, none⟩ = some (.slice p.b.A p.y.l.length p.b.c) ∧ w'.cell? ⟨g, o + 5, none⟩ = some (.slice p.b.D p.y.m.length p.b.d) ∧ w'.cell? ⟨g, o + 6, none⟩ = some (.bool q.x.p) ∧ w'.cell? ⟨g, o + 7, none⟩ = some (.slice q.a.A q.x.l.length q.a.c) ∧ w'.cell? ⟨g, o + 8, none⟩ = some (.slice q.a.D q.x.m.length q.a.d) ∧ w'.cell? ⟨g, o + 9, none⟩ = some (.bool q.y.p) ∧ w'.cell? ⟨g, o + 10, none⟩ = some (.slice q.b.A q.y.l.length q.b.c) ∧ w'.cell? ⟨g, o + 11, none⟩ = some (.slice q.b.D q.y.m.length q.b.d) ∧ w'.cell? ⟨g, o + 12, none⟩ = some (.bool r.x.p) ∧ w'.cell? ⟨g, o + 13, none⟩ = some (.slice r.a.A r.x.l.length r.a.c) ∧ w'.cell? ⟨g, o + 14, none⟩ = some (.slice r.a.D r.x.m.length r.a.d) ∧ w'.cell? ⟨g, o + 15, none⟩ = some (.bool r.y.p) ∧ w'.cell? ⟨g, o + 16, none⟩ = some (.slice r.b.A r.y.l.length r.b.c) ∧ w'.cell? ⟨g, o + 17, none⟩ = some (.slice r.b.D r.y.m.length r.b.d) ∧ Below w.heap.size w w')) := Lib.hid (fun w' hB => ⟨below_cell hB c0, below_cell hB c1, below_cell hB c2, below_cell hB c3, below_cell hB c4, below_cell hB c5, below_cell hB c6, below_cell hB c7, below_cell hB c8, below_cell hB c9, below_cell hB c10, below_cell hB c11, below_cell hB c12, below_cell hB c13, below_cell hB c14, below_cell hB c15, below_cell hB c16, below_cell hB c17, hB⟩)
    clear hA hR hL hn h3
    go_enter Tryz.func15, Tryz.ntmps15
    go_wp2_with fail
    clear c0 c1 c2 c3 c4 c5 c6 c7 c8 c9 c10 c11 c12 c13 c14 c15 c16 c17
    go_region_held3 (fun w' => w'.cell? ⟨g, o, none⟩ = some (.bool p.x.p) ∧ w'.cell? ⟨g, o + 1, none⟩ = some (.slice p.a.A p.x.l.length p.a.c) ∧ w'.cell? ⟨g, o + 2, none⟩ = some (.slice p.a.D p.x.m.length p.a.d) ∧ w'.cell? ⟨g, o + 3, none⟩ = some (.bool p.y.p) ∧ w'.cell? ⟨g, o + 4, none⟩ = some (.slice p.b.A p.y.l.length p.b.c) ∧ w'.cell? ⟨g, o + 5, none⟩ = some (.slice p.b.D p.y.m.length p.b.d) ∧ w'.cell? ⟨g, o + 6, none⟩ = some (.bool q.x.p) ∧ w'.cell? ⟨g, o + 7, none⟩ = some (.slice q.a.A q.x.l.length q.a.c) ∧ w'.cell? ⟨g, o + 8, none⟩ = some (.slice q.a.D q.x.m.length q.a.d) ∧ w'.cell? ⟨g, o + 9, none⟩ = some (.bool q.y.p) ∧ w'.cell? ⟨g, o + 10, none⟩ = some (.slice q.b.A q.y.l.length q.b.c) ∧ w'.cell? ⟨g, o + 11, none⟩ = some (.slice q.b.D q.y.m.length q.b.d) ∧ w'.cell? ⟨g, o + 12, none⟩ = some (.bool r.x.p) ∧ w'.cell? ⟨g, o + 13, none⟩ = some (.slice r.a.A r.x.l.length r.a.c) ∧ w'.cell? ⟨g, o + 14, none⟩ = some (.slice r.a.D r.x.m.length r.a.d) ∧ w'.cell? ⟨g, o + 15, none⟩ = some (.bool r.y.p) ∧ w'.cell? ⟨g, o + 16, none⟩ = some (.slice r.b.A r.y.l.length r.b.c) ∧ w'.cell? ⟨g, o + 17, none⟩ = some (.slice r.b.D r.y.m.length r.b.d) ∧ Below w.heap.size w w')
      (first | (with_reducible exact SB.out _ (Below.refl _ _).drew) | (with_reducible exact SB.out _ (Below.refl _ _)) | (go_split_ands; with_reducible exact SB.out _ (bt (by assumption : Below w.heap.size w _) hb)))
      (first | (go_at_call 71; go_split_ands; ((with_reducible refine (HA.out _ (RR.out _ (by assumption : Below w.heap.size w _)).1 (RR.out _ (by assumption : Below w.heap.size w _)).2.1 (RR.out _ (by assumption : Below w.heap.size w _)).2.2).mono ?_); rintro e Wn1 ⟨a1, rfl, hc1, hc2, o1, hap1, hb⟩; skip)) | (go_at_call 72; go_split_ands; ((with_reducible refine (HS.out _ _ (by first | with_reducible exact o1.rds | with_reducible exact (Owns.drew o1).rds | with_reducible exact (o1.below (ba1 _ _)).rds | with_reducible exact (Owns.drew (o1.below (ba1 _ _))).rds)).mono ?_); rintro e Wn2 ⟨rfl, hb⟩; skip)))
    all_goals
      have hfin := (‹_ ∧ _ ∧ _ ∧ _ ∧ _ ∧ _ ∧ _ ∧ _ ∧ _ ∧ _ ∧ _ ∧ _ ∧ _ ∧ _ ∧ _ ∧ _ ∧ _ ∧ _ ∧ Below w.heap.size w _›).2.2.2.2.2.2.2.2.2.2.2.2.2.2.2.2.2.2
      go_wp2
      go_ret
      exact ⟨rfl, hfin⟩
  · rw [properB_len h3]
    generalize L.length = n at h3 hn ⊢
    have q : ((n : Int) == 3) = false := by simp; omega
    clear hA hR hL
    go_enter Tryz.func15, Tryz.ntmps15
    go_wp2
    go_quiet (fail)
    go_wp2
    go_ret
    exact ⟨rfl, below_drewN (Below.refl _ _) _⟩
theorem tri_any (L : List PV) (A : Option Addr) (c : Nat) (w : World) (hn : L.length ≤ 9223372036854775807) (hL : ∀ p, p ∈ L → LenP p) (hA : RdS w A (flat L)) (hR : Rds w (lrow L)) :
    Calls Tryz.prog 63 #[.slice A L.length c] w (fun e w' => e = .returned (.agg (p18 (tri1 L) (tri2 L) (tri3 L))) ∧ Below w.heap.size w w') := by
  have HP := Lib.hid (fun W h h' => impl_proper L A c W hn hL h h')
  have RR : Hid (∀ W, Below w.heap.size w W → RdS W A (flat L) ∧ Rds W (lrow L)) := Lib.hid (fun W hB => ⟨hA.below hB, hR.below hB⟩)
  cases hp : properB L with
  | false =>
    obtain ⟨e1, e2, e3⟩ := tri_no hp
    rw [hp] at HP
    rw [e1, e2, e3]
    show Calls Tryz.prog 63 #[.slice A L.length c] w (fun e w' => e = .returned (.agg #[.bool false, .slice none 0 0, .slice none 0 0, .bool false, .slice none 0 0, .slice none 0 0, .bool false, .slice none 0 0, .slice none 0 0, .bool false, .slice none 0 0, .slice none 0 0, .bool false, .slice none 0 0, .slice none 0 0, .bool false, .slice none 0 0, .slice none 0 0]) ∧ Below w.heap.size w w')
    generalize L.length = n at HP ⊢
    clear hA hR hL hn e1 e2 e3 hp
    go_enter Tryz.func63, Tryz.ntmps63
    go_wp2_with fail
    have kb := ba1 w (.cells #[.bool false, .slice none 0 0, .slice none 0 0, .bool false, .slice none 0 0, .slice none 0 0, .bool false, .slice none 0 0, .slice none 0 0, .bool false, .slice none 0 0, .slice none 0 0, .bool false, .slice none 0 0, .slice none 0 0, .bool false, .slice none 0 0, .slice none 0 0] 81)
    have P_o := heap_alloc_new w (.cells #[.bool false, .slice none 0 0, .slice none 0 0, .bool false, .slice none 0 0, .slice none 0 0, .bool false, .slice none 0 0, .slice none 0 0, .bool false, .slice none 0 0, .slice none 0 0, .bool false, .slice none 0 0, .slice none 0 0, .bool false, .slice none 0 0, .slice none 0 0] 81)
    generalize w.alloc (.cells #[.bool false, .slice none 0 0, .slice none 0 0, .bool false, .slice none 0 0, .slice none 0 0, .bool false, .slice none 0 0, .slice none 0 0, .bool false, .slice none 0 0, .slice none 0 0, .bool false, .slice none 0 0, .slice none 0 0, .bool false, .slice none 0 0, .slice none 0 0] 81) = W1 at kb P_o ⊢
    refine (HP.out _ (RR.out _ kb).1 (RR.out _ kb).2).mono ?_
    rintro e W2 ⟨rfl, hb⟩
    replace P_o := rblk_below P_o hb
    replace kb := bt kb hb
    clear hb
    go_wp2_with (first | refine wpList_store_row rfl 81 (.tmp 2) (.tmp 6) rfl (w.heap.size) #[.bool false, .slice none 0 0, .slice none 0 0, .bool false, .slice none 0 0, .slice none 0 0, .bool false, .slice none 0 0, .slice none 0 0, .bool false, .slice none 0 0, .slice none 0 0, .bool false, .slice none 0 0, .slice none 0 0, .bool false, .slice none 0 0, .slice none 0 0] rfl rfl 81 _ P_o tri_size rfl (by simp [Value.oneCell', p18, r3, z3]) ?_)
    have P2 := rowV_set P_o #[.bool false, .slice none 0 0, .slice none 0 0, .bool false, .slice none 0 0, .slice none 0 0, .bool false, .slice none 0 0, .slice none 0 0, .bool false, .slice none 0 0, .slice none 0 0, .bool false, .slice none 0 0, .slice none 0 0, .bool false, .slice none 0 0, .slice none 0 0]
    go_wp2
    exact bodyPost_ret (v := .agg #[.bool false, .slice none 0 0, .slice none 0 0, .bool false, .slice none 0 0, .slice none 0 0, .bool false, .slice none 0 0, .slice none 0 0, .bool false, .slice none 0 0, .slice none 0 0, .bool false, .slice none 0 0, .slice none 0 0, .bool false, .slice none 0 0, .slice none 0 0]) (results_row Tryz.results63 _ _ (w.heap.size) #[.bool false, .slice none 0 0, .slice none 0 0, .bool false, .slice none 0 0, .slice none 0 0, .bool false, .slice none 0 0, .slice none 0 0, .bool false, .slice none 0 0, .slice none 0 0, .bool false, .slice none 0 0, .slice none 0 0, .bool false, .slice none 0 0, .slice none 0 0] rfl tri_agg (run_size tri_size) P2) rfl ⟨rfl, below_setRow kb (by omega) _⟩
  | true =>
    obtain ⟨p, q, r, rfl, _, _⟩ := properB_three hp
    obtain ⟨e1, e2, e3⟩ := tri_yes hp
    rw [hp] at HP
    rw [e1, e2, e3]
    obtain ⟨g, o, rfl, hg, c0, c1, c2, c3, c4, c5, c6, c7, c8, c9, c10, c11, c12, c13, c14, c15, c16, c17⟩ := hA.tri
    show Calls Tryz.prog 63 #[.slice (some ⟨g, o, none⟩) 3 c] w (fun e w' => e = .returned (.agg (p18 p q r)) ∧ Below w.heap.size w w')
    clear hA hR hL hn e1 e2 e3 hp c0 c1 c2 c3 c4 c5 c6 c7 c8 c9 c10 c11 c12 c13 c14 c15 c16 c17
    go_enter Tryz.func63, Tryz.ntmps63
    go_wp2_with fail
    have kb := ba1 w (.cells #[.bool false, .slice none 0 0, .slice none 0 0, .bool false, .slice none 0 0, .slice none 0 0, .bool false, .slice none 0 0, .slice none 0 0, .bool false, .slice none 0 0, .slice none 0 0, .bool false, .slice none 0 0, .slice none 0 0, .bool false, .slice none 0 0, .slice none 0 0] 81)
    have P_o := heap_alloc_new w (.cells #[.bool false, .slice none 0 0, .slice none 0 0, .bool false, .slice none 0 0, .slice none 0 0, .bool false, .slice none 0 0, .slice none 0 0, .bool false, .slice none 0 0, .slice none 0 0, .bool false, .slice none 0 0, .slice none 0 0, .bool false, .slice none 0 0, .slice none 0 0] 81)
    generalize w.alloc (.cells #[.bool false, .slice none 0 0, .slice none 0 0, .bool false, .slice none 0 0, .slice none 0 0, .bool false, .slice none 0 0, .slice none 0 0, .bool false, .slice none 0 0, .slice none 0 0, .bool false, .slice none 0 0, .slice none 0 0, .bool false, .slice none 0 0, .slice none 0 0] 81) = W1 at kb P_o ⊢
    refine (HP.out _ (RR.out _ kb).1 (RR.out _ kb).2).mono ?_
    rintro e W2 ⟨rfl, hb⟩
    replace P_o := rblk_below P_o hb
    replace kb := bt kb hb
    clear hb
    have hld := rd_row (RR.out _ kb).1
    have hat : ∀ w, (Instr.arrayAt 81 (.slice (some ⟨g, o, none⟩) 3 c)).run Tryz.prog w = .ok (.pointer (some ⟨g, o, none⟩)) w := fun w => run_arrayAt w 81 _ 3 _ 3 c Tryz.underlying81 (by omega)
    go_wp2_with (first | refine wpList_store_row rfl 81 (.tmp 2) (.tmp 9) rfl (w.heap.size) (p18 p q r) rfl rfl 81 _ P_o tri_size rfl (by simp [Value.oneCell', p18, r3, z3]) ?_ | simp only [hat] | refine wpList_load_at rfl 81 (.tmp 8) rfl g o (p18 p q r) rfl tri_agg (run_size tri_size) hld ?_)
    have P2 := rowV_set P_o (p18 p q r)
    go_wp2
    exact bodyPost_ret (v := .agg (p18 p q r)) (results_row Tryz.results63 _ _ (w.heap.size) (p18 p q r) rfl tri_agg (run_size tri_size) P2) rfl ⟨rfl, below_setRow kb (by omega) _⟩
theorem tarea (p q r : PV) (w : World) (h : TriOk w p q r) :
    Calls Tryz.prog 129 #[.agg (p18 p q r)] w (MadeQ w.heap.size (ofO (aV p q r)) w) := by
  have HA := Lib.hid (fun W h => areaV p q r W h)
  have RR : Hid (∀ W, Below w.heap.size w W → TriOk W p q r) := Lib.hid (fun W hB => h.below hB)
  clear h
  generalize ofO (aV p q r) = U at HA ⊢
  go_enter Tryz.func129, Tryz.ntmps129
  go_wp2_with fail
  have kb := ba2 w (.cells (p18 p q r) 81) (.cells z3 29)
  obtain ⟨P_t, P_o⟩ := blocks2 w (.cells (p18 p q r) 81) (.cells z3 29)
  generalize (w.alloc (.cells (p18 p q r) 81)).alloc (.cells z3 29) = W1 at kb P_t P_o ⊢
  have c_t0 := rblk_cell P_t 0
  have c_t1 := rblk_cell P_t 1
  have c_t2 := rblk_cell P_t 2
  have c_t3 := rblk_cell P_t 3
  have c_t4 := rblk_cell P_t 4
  have c_t5 := rblk_cell P_t 5
  have c_t6 := rblk_cell P_t 6
  have c_t7 := rblk_cell P_t 7
  have c_t8 := rblk_cell P_t 8
  have c_t9 := rblk_cell P_t 9
  have c_t10 := rblk_cell P_t 10
  have c_t11 := rblk_cell P_t 11
  have c_t12 := rblk_cell P_t 12
  have c_t13 := rblk_cell P_t 13
  have c_t14 := rblk_cell P_t 14
  have c_t15 := rblk_cell P_t 15
  have c_t16 := rblk_cell P_t 16
  have c_t17 := rblk_cell P_t 17
  go_wp2_with fail
  clear c_t0 c_t1 c_t2 c_t3 c_t4 c_t5 c_t6 c_t7 c_t8 c_t9 c_t10 c_t11 c_t12 c_t13 c_t14 c_t15 c_t16 c_t17
  have hlt0 := rblk_lt P_o
  have hle0 := kb.size
  refine (HA.out _ (RR.out _ kb)).mono ?_
  rintro e W2 ⟨a1, rfl, hc1, hc2, o1, hap1, hb⟩
  replace P_t := rblk_below P_t hb
  replace P_o := rblk_below P_o hb
  replace kb := bt kb hb
  have hz := hb.size
  have c_o0 := rblk_cell P_o 0
  have c_o1 := rblk_cell P_o 1
  have c_o2 := rblk_cell P_o 2
  have f_o0 := rblk_free P_o 0
  have f_o1 := rblk_free P_o 1
  have f_o2 := rblk_free P_o 2
  go_wp2
  exact bodyPost_ret (v := .agg (r3 U a1)) (by simp [results, Tryz.results129, go_sem, c_o0, c_o1, c_o2]) rfl ⟨a1, rfl, hc1, hc2, owns_end3 o1 (.inl hlt0) hle0 (Nat.le_refl _) _ _ _, hap1, (below_put (below_put (below_put kb (by omega) _) (by omega) _) (by omega) _)⟩
end Go.Proofs.YtppdholccpgcpaaGreat
