/-
  Corners: the program.
-/
import Derived.Test.YtenjjojbjpmhbaaCorH
import Derived.Test.YtenjjojbjpmhbaaCorT
import Derived.Test.YtenjjojbjpmhbaaCpP
import Derived.Test.YtenjjojbjpmhbaaApp
namespace Go.Proofs.Ytenjjojbjpmhbaa
open Go.ChangeShapes Go.WideShapes Go.ChangeAt Go.RowKit
open Go.ChangeMaps (open_string shut_string)
set_option linter.unusedVariables false
set_option linter.unusedSimpArgs false
set_option maxRecDepth 4000

/-- The point with this index. -/
def ptAt (L : List PV) (i : Int) : PV := (L[i.toNat]?).getD PV0
/-- The corners of triangle k. -/
def corV (L : List PV) (T : List TV) (k : Int) : List PV :=
  match (if 0 ≤ k then T[k.toNat]? else none) with
  | some t => if okT L.length t = true then [ptAt L t.a, ptAt L t.b, ptAt L t.c] else []
  | none => []
theorem corV_out {L : List PV} {T : List TV} {k : Int} (h : inI k T.length = false) : corV L T k = [] := by
  unfold corV
  by_cases h0 : 0 ≤ k
  · have h1 : ¬ k < T.length := fun h1 => by simp [inI, h0, h1] at h
    rw [if_pos h0, List.getElem?_eq_none (by omega)]
  · rw [if_neg h0]
theorem corV_in {L : List PV} {T : List TV} {m : Nat} {t : TV} (h : T[m]? = some t) : corV L T (m : Int) = if okT L.length t = true then [ptAt L t.a, ptAt L t.b, ptAt L t.c] else [] := by
  unfold corV
  rw [if_pos (by omega), Int.toNat_natCast, h]
theorem ptAt_nat {L : List PV} {i : Nat} {p : PV} (h : L[i]? = some p) : ptAt L (i : Int) = p := by
  unfold ptAt
  rw [Int.toNat_natCast, h]; rfl
theorem inI_nat {x : Int} {n : Nat} (h : inI x n = true) : ∃ i : Nat, x = (i : Int) ∧ i < n := by
  obtain ⟨h0, h1⟩ := inI_yes h
  obtain ⟨i, rfl⟩ := Int.eq_ofNat_of_zero_le h0
  exact ⟨i, rfl, by omega⟩
theorem getV {L : List PV} {i : Nat} (h : i < L.length) : ∃ p, L[i]? = some p := ⟨L[i], List.getElem?_eq_getElem h⟩
theorem ptAt_dat {L M : List PV} (h : dat M = dat L) (i : Int) : (ptAt M i).x = (ptAt L i).x ∧ (ptAt M i).y = (ptAt L i).y := by
  unfold ptAt
  rcases Nat.lt_or_ge i.toNat L.length with h1 | h1
  · obtain ⟨p, hp⟩ := getV h1
    obtain ⟨q, hq, e1, e2⟩ := dat_get h hp
    rw [hp, hq]; exact ⟨e1, e2⟩
  · rw [List.getElem?_eq_none h1, List.getElem?_eq_none (by rw [dat_len h]; exact h1)]; exact ⟨rfl, rfl⟩
theorem corV_dat {L M : List PV} (h : dat M = dat L) (T : List TV) (k : Int) : dat (corV M T k) = dat (corV L T k) := by
  unfold corV
  rw [dat_len h]
  cases (if 0 ≤ k then T[k.toNat]? else none) with
  | none => rfl
  | some t =>
    by_cases ho : okT L.length t = true
    · show dat (if okT L.length t = true then [ptAt M t.a, ptAt M t.b, ptAt M t.c] else []) = dat (if okT L.length t = true then [ptAt L t.a, ptAt L t.b, ptAt L t.c] else [])
      rw [if_pos ho, if_pos ho]
      simp only [dat, List.map_cons, List.map_nil]
      rw [(ptAt_dat h t.a).1, (ptAt_dat h t.a).2, (ptAt_dat h t.b).1, (ptAt_dat h t.b).2, (ptAt_dat h t.c).1, (ptAt_dat h t.c).2]
    · show dat (if okT L.length t = true then [ptAt M t.a, ptAt M t.b, ptAt M t.c] else []) = dat (if okT L.length t = true then [ptAt L t.a, ptAt L t.b, ptAt L t.c] else [])
      rw [if_neg ho, if_neg ho]
theorem run_indexP_0 (p q r : PV) (w : World) : (Instr.index 58 (.agg #[.bool p.x.p, .slice p.a.A p.x.l.length p.a.c, .slice p.a.D p.x.m.length p.a.d, .bool p.y.p, .slice p.b.A p.y.l.length p.b.c, .slice p.b.D p.y.m.length p.b.d, .bool q.x.p, .slice q.a.A q.x.l.length q.a.c, .slice q.a.D q.x.m.length q.a.d, .bool q.y.p, .slice q.b.A q.y.l.length q.b.c, .slice q.b.D q.y.m.length q.b.d, .bool r.x.p, .slice r.a.A r.x.l.length r.a.c, .slice r.a.D r.x.m.length r.a.d, .bool r.y.p, .slice r.b.A r.y.l.length r.b.c, .slice r.b.D r.y.m.length r.b.d]) (.int .i64 0)).run Try.prog w = .ok (.agg #[.bool p.x.p, .slice p.a.A p.x.l.length p.a.c, .slice p.a.D p.x.m.length p.a.d, .bool p.y.p, .slice p.b.A p.y.l.length p.b.c, .slice p.b.D p.y.m.length p.b.d]) w := by
  simp [Instr.index, asIntOf, run_underlying Try.underlying58, Go.part, pt_agg, run_size pt_size]
theorem run_indexP_1 (p q r : PV) (w : World) : (Instr.index 58 (.agg #[.bool p.x.p, .slice p.a.A p.x.l.length p.a.c, .slice p.a.D p.x.m.length p.a.d, .bool p.y.p, .slice p.b.A p.y.l.length p.b.c, .slice p.b.D p.y.m.length p.b.d, .bool q.x.p, .slice q.a.A q.x.l.length q.a.c, .slice q.a.D q.x.m.length q.a.d, .bool q.y.p, .slice q.b.A q.y.l.length q.b.c, .slice q.b.D q.y.m.length q.b.d, .bool r.x.p, .slice r.a.A r.x.l.length r.a.c, .slice r.a.D r.x.m.length r.a.d, .bool r.y.p, .slice r.b.A r.y.l.length r.b.c, .slice r.b.D r.y.m.length r.b.d]) (.int .i64 1)).run Try.prog w = .ok (.agg #[.bool q.x.p, .slice q.a.A q.x.l.length q.a.c, .slice q.a.D q.x.m.length q.a.d, .bool q.y.p, .slice q.b.A q.y.l.length q.b.c, .slice q.b.D q.y.m.length q.b.d]) w := by
  simp [Instr.index, asIntOf, run_underlying Try.underlying58, Go.part, pt_agg, run_size pt_size]
theorem run_indexP_2 (p q r : PV) (w : World) : (Instr.index 58 (.agg #[.bool p.x.p, .slice p.a.A p.x.l.length p.a.c, .slice p.a.D p.x.m.length p.a.d, .bool p.y.p, .slice p.b.A p.y.l.length p.b.c, .slice p.b.D p.y.m.length p.b.d, .bool q.x.p, .slice q.a.A q.x.l.length q.a.c, .slice q.a.D q.x.m.length q.a.d, .bool q.y.p, .slice q.b.A q.y.l.length q.b.c, .slice q.b.D q.y.m.length q.b.d, .bool r.x.p, .slice r.a.A r.x.l.length r.a.c, .slice r.a.D r.x.m.length r.a.d, .bool r.y.p, .slice r.b.A r.y.l.length r.b.c, .slice r.b.D r.y.m.length r.b.d]) (.int .i64 2)).run Try.prog w = .ok (.agg #[.bool r.x.p, .slice r.a.A r.x.l.length r.a.c, .slice r.a.D r.x.m.length r.a.d, .bool r.y.p, .slice r.b.A r.y.l.length r.b.c, .slice r.b.D r.y.m.length r.b.d]) w := by
  simp [Instr.index, asIntOf, run_underlying Try.underlying58, Go.part, pt_agg, run_size pt_size]
set_option maxHeartbeats 4000000 in
theorem impl_corners0 (L : List PV) (T : List TV) (A B : Option Addr) (c d : Nat) (k0 : Int) (w : World) (hL : L.length ≤ 1048576) (hT : T.length ≤ 1048576) (hS : ∀ p, p ∈ L → ShortP p) (hA : Rds w (srow A L)) (hB : RdS w B (flatT T)) :
    Calls Try.prog 8 #[.agg #[.slice A L.length c, .slice B T.length d], .int .i64 k0] w (MadePS w.heap.size (corV L T k0) w) := by
  have IX := Lib.hid (fun W => isIndex_r k0 T.length W)
  cases hin : inI k0 T.length with
  | false =>
    rw [hin] at IX
    have HN := Lib.hid (fun w' h => made_none w.heap.size (corV_out (L := L) hin) (w := w) (w' := w') h)
    clear hin hA hB hS
    generalize corV L T k0 = GL at HN ⊢
    generalize L.length = n at *
    generalize T.length = k at *
    go_enter Try.func8, Try.ntmps8
    go_wp2_with fail
    have kb := ba1 w (.cells #[.slice A n c, .slice B k d] 31)
    have P_a := heap_alloc_new w (.cells #[.slice A n c, .slice B k d] 31)
    generalize w.alloc (.cells #[.slice A n c, .slice B k d] 31) = W1 at kb P_a ⊢
    refine wp_region_held_drew (S := fun w' => w'.heap[w.heap.size]? = some (.cells #[.slice A n c, .slice B k d] 31 (0, 0))) (by kernel_rfl) (P_a) (fun hHeld => ?_)
    clear P_a
    replace kb := kb.drew
    generalize W1.drew = Wd at *
    refine tk (i := 0) (v := ?vg1_1) rfl (by kernel_rfl) (fun _ _ _ h => h) (Or.inl ⟨by rfl, ?hg1_1⟩) hHeld ?_
    case hg1_1 => (intro w hSw; (try dsimp only at hSw); clear hSw; go_simp; (try with_reducible rfl))
    try simp only [ps]
    refine tk (i := 1) (v := ?vg1_2) rfl (by kernel_rfl) (fun _ _ _ h => h) (Or.inl ⟨by rfl, ?hg1_2⟩) hHeld ?_
    case hg1_2 => (intro w hSw; (try dsimp only at hSw); clear hSw; go_simp; (try with_reducible rfl))
    try simp only [ps]
    refine tk (i := 2) (v := ?vg1_3) rfl (by kernel_rfl) (fun _ _ _ h => h) (Or.inl ⟨by rfl, ?hg1_3⟩) hHeld ?_
    case hg1_3 => (intro w hSw; (try dsimp only at hSw); have z0 := rblk_cell hSw 1; clear hSw; go_simp; (try with_reducible rfl))
    try simp only [ps]
    refine tk (i := 3) (v := ?vg1_4) rfl (by kernel_rfl) (fun _ _ _ h => h) (Or.inl ⟨by rfl, ?hg1_4⟩) hHeld ?_
    case hg1_4 => (intro w hSw; (try dsimp only at hSw); clear hSw; go_simp; (try with_reducible rfl))
    try simp only [ps]
    refine rd1 (i := 4) (by kernel_rfl) rfl (fun K hK => ?_)
    go_simp
    (go_at_call 23; ((with_reducible refine (IX.out _).mono ?_); rintro e Wr1_5 ⟨rfl, hb⟩))
    refine hK.out _ _ (rblk_below hHeld hb) (fun hH => ?_)
    replace hHeld := hH
    clear hK K hH
    replace kb := bt kb hb
    clear hb
    try simp only [ps]
    refine tk (i := 5) (v := ?vg1_6) rfl (by kernel_rfl) (fun _ _ _ h => h) (Or.inl ⟨by rfl, ?hg1_6⟩) hHeld ?_
    case hg1_6 => (intro w hSw; (try dsimp only at hSw); clear hSw; go_simp; (try with_reducible rfl))
    try simp only [ps]
    refine tk (i := 6) (v := ?vg1_7) rfl (by kernel_rfl) (fun _ _ _ h => h) (Or.inl ⟨by rfl, ?hg1_7⟩) hHeld ?_
    case hg1_7 => (intro w hSw; (try dsimp only at hSw); clear hSw; go_simp; (try with_reducible rfl))
    try simp only [ps]
    refine tk (i := 7) (v := undef) rfl (by kernel_rfl) (fun _ _ _ h => h) (Or.inr ⟨by rfl, rfl⟩) hHeld ?_
    try simp only [ps]
    refine tk (i := 8) (v := undef) rfl (by kernel_rfl) (fun _ _ _ h => h) (Or.inr ⟨by rfl, rfl⟩) hHeld ?_
    try simp only [ps]
    refine tk (i := 9) (v := undef) rfl (by kernel_rfl) (fun _ _ _ h => h) (Or.inr ⟨by rfl, rfl⟩) hHeld ?_
    try simp only [ps]
    refine tk (i := 10) (v := undef) rfl (by kernel_rfl) (fun _ _ _ h => h) (Or.inr ⟨by rfl, rfl⟩) hHeld ?_
    try simp only [ps]
    refine tk (i := 11) (v := undef) rfl (by kernel_rfl) (fun _ _ _ h => h) (Or.inr ⟨by rfl, rfl⟩) hHeld ?_
    try simp only [ps]
    refine tk (i := 12) (v := undef) rfl (by kernel_rfl) (fun _ _ _ h => h) (Or.inr ⟨by rfl, rfl⟩) hHeld ?_
    try simp only [ps]
    refine tk (i := 13) (v := undef) rfl (by kernel_rfl) (fun _ _ _ h => h) (Or.inr ⟨by rfl, rfl⟩) hHeld ?_
    try simp only [ps]
    refine tk (i := 14) (v := undef) rfl (by kernel_rfl) (fun _ _ _ h => h) (Or.inr ⟨by rfl, rfl⟩) hHeld ?_
    try simp only [ps]
    refine tk (i := 15) (v := ?vg1_16) rfl (by kernel_rfl) (fun _ _ _ h => h) (Or.inl ⟨by rfl, ?hg1_16⟩) hHeld ?_
    case hg1_16 => (intro w hSw; (try dsimp only at hSw); clear hSw; go_simp; (try with_reducible rfl))
    try simp only [ps]
    refine wpAnyH_done (by kernel_rfl) ?_ _
    have HF := Lib.hid (HN.out _ kb)
    clear kb hHeld
    go_wp2
    go_ret
    exact HF.out
  | true =>
  obtain ⟨m, rfl, hm⟩ := inI_nat hin
  rw [hin] at IX
  obtain ⟨t, ht⟩ := getT hm
  have hm0 : (0 : Int) ≤ (m : Int) := by omega
  have hm1 : (m : Int) < (T.length : Int) := by omega
  have HX := Lib.hid (fun W => hasCorners_r t A B L.length c T.length d W)
  cases ho : okT L.length t with
  | false =>
    rw [ho] at HX
    have HN := Lib.hid (fun w' h => made_none w.heap.size (show corV L T (m : Int) = [] by rw [corV_in ht, ho]; rfl) (w := w) (w' := w') h)
    obtain ⟨g', o', rfl, hg', f0, f1, f2, f3, f4⟩ := hB.five ht
    clear hin hA hB hS ho ht
    generalize corV L T (m : Int) = GL at HN ⊢
    generalize L.length = n at *
    generalize T.length = k at *
    go_enter Try.func8, Try.ntmps8
    go_wp2_with fail
    have kb := ba1 w (.cells #[.slice A n c, .slice (some ⟨g', o', none⟩) k d] 31)
    have P_a := heap_alloc_new w (.cells #[.slice A n c, .slice (some ⟨g', o', none⟩) k d] 31)
    generalize w.alloc (.cells #[.slice A n c, .slice (some ⟨g', o', none⟩) k d] 31) = W1 at kb P_a ⊢
    have SB : Hid (∀ w', Below W1.heap.size W1 w' → (w'.cell? ⟨w.heap.size, 0, none⟩ = some (.slice A n c) ∧ w'.cell? ⟨w.heap.size, 1, none⟩ = some (.slice (some ⟨g', o', none⟩) k d) ∧ w'.cell? ⟨g', o' + m * 5, none⟩ = some (.int .i64 t.a) ∧ w'.cell? ⟨g', o' + m * 5 + 1, none⟩ = some (.int .i64 t.b) ∧ w'.cell? ⟨g', o' + m * 5 + 2, none⟩ = some (.int .i64 t.c) ∧ w'.cell? ⟨g', o' + m * 5 + 3, none⟩ = some (.int .i64 t.r) ∧ w'.cell? ⟨g', o' + m * 5 + 4, none⟩ = some (.int .i64 t.l) ∧ Below W1.heap.size W1 w')) := Lib.hid (fun w' hB => ⟨rblk_cell (rblk_below P_a hB) 0, rblk_cell (rblk_below P_a hB) 1, below_cell hB (below_cell kb f0), below_cell hB (below_cell kb f1), below_cell hB (below_cell kb f2), below_cell hB (below_cell kb f3), below_cell hB (below_cell kb f4), hB⟩)
    have kr := kb
    clear f0 f1 f2 f3 f4
    go_region_held3 (fun w' => w'.cell? ⟨w.heap.size, 0, none⟩ = some (.slice A n c) ∧ w'.cell? ⟨w.heap.size, 1, none⟩ = some (.slice (some ⟨g', o', none⟩) k d) ∧ w'.cell? ⟨g', o' + m * 5, none⟩ = some (.int .i64 t.a) ∧ w'.cell? ⟨g', o' + m * 5 + 1, none⟩ = some (.int .i64 t.b) ∧ w'.cell? ⟨g', o' + m * 5 + 2, none⟩ = some (.int .i64 t.c) ∧ w'.cell? ⟨g', o' + m * 5 + 3, none⟩ = some (.int .i64 t.r) ∧ w'.cell? ⟨g', o' + m * 5 + 4, none⟩ = some (.int .i64 t.l) ∧ Below W1.heap.size W1 w')
      (first | (with_reducible exact SB.out _ (Below.refl _ _).drew) | (with_reducible exact SB.out _ (Below.refl _ _)) | (go_split_ands; with_reducible exact SB.out _ (bt (by assumption : Below W1.heap.size W1 _) hb)))
      (first | (go_at_call 23; go_split_ands; ((with_reducible refine (IX.out _).mono ?_); rintro e Wa ⟨rfl, hb⟩; have hKB := bt (by assumption : Below W1.heap.size W1 _) hb)) | (go_at_call 24; go_split_ands; ((with_reducible refine (HX.out _).mono ?_); rintro e Wb ⟨rfl, hb⟩; have hKB2 := bt (by assumption : Below W1.heap.size W1 _) hb)))
    all_goals
      have HF := Lib.hid (HN.out _ (bt kr hKB2))
      go_wp2
      go_ret
      exact HF.out
  | true =>
    rw [ho] at HX
    have ho' := ho
    unfold okT at ho'
    simp only [Bool.and_eq_true] at ho'
    obtain ⟨ta, tb, tcc, t4, t5⟩ := t
    obtain ⟨i, hi, hil⟩ := inI_nat ho'.1
    obtain ⟨j, hj, hjl⟩ := inI_nat ho'.2.1
    obtain ⟨l, hl, hll⟩ := inI_nat ho'.2.2
    dsimp only at hi hj hl
    subst hi
    subst hj
    subst hl
    obtain ⟨p, hp⟩ := getV hil
    obtain ⟨q, hq⟩ := getV hjl
    obtain ⟨r, hr⟩ := getV hll
    have eG : corV L T (m : Int) = [p, q, r] := by
      rw [corV_in ht, if_pos ho]
      dsimp only
      rw [ptAt_nat hp, ptAt_nat hq, ptAt_nat hr]
    rw [eG]
    have MT := Lib.hid (fun W (hb : Below w.heap.size w W) => meshTri_r L T A B c d m i j l t4 t5 p q r W hL hT ht hp hq hr (hA.hd.below hb) (hB.below hb))
    have CP := Lib.hid (fun W (hb : Below w.heap.size w W) => copiedP p W (hS p (List.mem_of_getElem? hp)) ((hA.tl.at hp).below hb))
    have CQ := Lib.hid (fun W (hb : Below w.heap.size w W) => copiedP q W (hS q (List.mem_of_getElem? hq)) ((hA.tl.at hq).below hb))
    have CR := Lib.hid (fun W (hb : Below w.heap.size w W) => copiedP r W (hS r (List.mem_of_getElem? hr)) ((hA.tl.at hr).below hb))
    obtain ⟨g', o', rfl, hg', f0, f1, f2, f3, f4⟩ := hB.five ht
    clear hin hA hB hS ho ht ho' eG hp hq hr hil hjl hll
    generalize L.length = n at *
    generalize T.length = k at *
    unfold MadeP at CP CQ CR
    go_enter Try.func8, Try.ntmps8
    go_wp2_with fail
    have kb := ba1 w (.cells #[.slice A n c, .slice (some ⟨g', o', none⟩) k d] 31)
    have P_a := heap_alloc_new w (.cells #[.slice A n c, .slice (some ⟨g', o', none⟩) k d] 31)
    generalize w.alloc (.cells #[.slice A n c, .slice (some ⟨g', o', none⟩) k d] 31) = W1 at kb P_a ⊢
    have SB : Hid (∀ w', Below W1.heap.size W1 w' → (w'.cell? ⟨w.heap.size, 0, none⟩ = some (.slice A n c) ∧ w'.cell? ⟨w.heap.size, 1, none⟩ = some (.slice (some ⟨g', o', none⟩) k d) ∧ w'.cell? ⟨g', o' + m * 5, none⟩ = some (.int .i64 (i : Int)) ∧ w'.cell? ⟨g', o' + m * 5 + 1, none⟩ = some (.int .i64 (j : Int)) ∧ w'.cell? ⟨g', o' + m * 5 + 2, none⟩ = some (.int .i64 (l : Int)) ∧ w'.cell? ⟨g', o' + m * 5 + 3, none⟩ = some (.int .i64 t4) ∧ w'.cell? ⟨g', o' + m * 5 + 4, none⟩ = some (.int .i64 t5) ∧ Below W1.heap.size W1 w')) := Lib.hid (fun w' hB => ⟨rblk_cell (rblk_below P_a hB) 0, rblk_cell (rblk_below P_a hB) 1, below_cell hB (below_cell kb f0), below_cell hB (below_cell kb f1), below_cell hB (below_cell kb f2), below_cell hB (below_cell kb f3), below_cell hB (below_cell kb f4), hB⟩)
    have kr := kb
    clear f0 f1 f2 f3 f4
    go_region_held3 (fun w' => w'.cell? ⟨w.heap.size, 0, none⟩ = some (.slice A n c) ∧ w'.cell? ⟨w.heap.size, 1, none⟩ = some (.slice (some ⟨g', o', none⟩) k d) ∧ w'.cell? ⟨g', o' + m * 5, none⟩ = some (.int .i64 (i : Int)) ∧ w'.cell? ⟨g', o' + m * 5 + 1, none⟩ = some (.int .i64 (j : Int)) ∧ w'.cell? ⟨g', o' + m * 5 + 2, none⟩ = some (.int .i64 (l : Int)) ∧ w'.cell? ⟨g', o' + m * 5 + 3, none⟩ = some (.int .i64 t4) ∧ w'.cell? ⟨g', o' + m * 5 + 4, none⟩ = some (.int .i64 t5) ∧ Below W1.heap.size W1 w')
      (first | (with_reducible exact SB.out _ (Below.refl _ _).drew) | (with_reducible exact SB.out _ (Below.refl _ _)) | (go_split_ands; with_reducible exact SB.out _ (bt (by assumption : Below W1.heap.size W1 _) hb)))
      (first | (go_at_call 23; go_split_ands; ((with_reducible refine (IX.out _).mono ?_); rintro e Wa ⟨rfl, hb⟩; have hKB := bt (by assumption : Below W1.heap.size W1 _) hb)) | (go_at_call 24; go_split_ands; ((with_reducible refine (HX.out _).mono ?_); rintro e Wb ⟨rfl, hb⟩; have hKB2 := bt (by assumption : Below W1.heap.size W1 _) hb)))
    all_goals
      have kb2 := bt kr hKB2
      have P_b := rblk_below P_a hKB2
      have c0 := rblk_cell P_b 0
      have c1 := rblk_cell P_b 1
      clear hKB2 hKB kr SB kb
      try clear ‹_ ∧ _›
      go_wp2_with fail
      refine (MT.out _ kb2).mono ?_
      rintro e W3 ⟨rfl, hb3⟩
      have kw := bt kb2 hb3
      have HW : Hid (∀ W, Below W3.heap.size W3 W → Below w.heap.size w W) := Lib.hid (fun W hB => bt kw hB)
      have HZ := Lib.hid kw.size
      clear c0 c1 kb2 hb3 P_a P_b kw
      go_wp2
      go_loopw [27, 5] (fun kk v w' => ∃ (j0 : Nat) (M : List PV) (A' : Option Addr) (c' : Nat), j0 ≤ 3 ∧ kk = .int .i64 (j0 : Int) ∧ v = .slice A' j0 c' ∧ M.length = j0 ∧ w'.ownsRow W3.heap.size 51 6 (.slice A' j0 c') j0 (flat M) ∧ dat M = (dat [p, q, r]).take j0 ∧ (∀ x, x ∈ M → CapP x) ∧ Owns W3.heap.size w'.heap.size w' (lrow M) ∧ Aparts (lrow M) ∧ Below W3.heap.size W3 w') (fun kk _ _ => 3 - (intOf kk).toNat)
      case atStart => exact ⟨0, [], none, 0, by omega, rfl, rfl, rfl, ⟨rfl, .inl ⟨rfl, rfl⟩⟩, rfl, (fun x hx => by cases hx), Owns.nil _ _ _, Aparts.nil, Below.refl _ _⟩
      case round =>
        obtain ⟨j0, M, A', c', hj, rfl, rfl, hM, hown, hd, hcap, hO, hap, kr⟩ := hrel
        have HF := Lib.hid (And.intro hM (And.intro hd hcap))
        have HR := Lib.hid (And.intro hown (And.intro hO hap))
        have HVZ : Hid (∀ g, (Value.slice A' j0 c').ownBlock = some g → g < wr.heap.size) := Lib.hid (fun g h => (hown.lt g h).2)
        clear hM hd hcap hown hO hap
        have hjc : j0 = 0 ∨ j0 = 1 ∨ j0 = 2 ∨ j0 = 3 := by omega
        rcases hjc with rfl | rfl | rfl | rfl
        · skip
          go_wp2_with (simp only [run_indexP_0])
          have kz := ba1 wr (.cells #[.bool p.x.p, .slice p.a.A p.x.l.length p.a.c, .slice p.a.D p.x.m.length p.a.d, .bool p.y.p, .slice p.b.A p.y.l.length p.b.c, .slice p.b.D p.y.m.length p.b.d] 51)
          generalize wr.alloc (.cells #[.bool p.x.p, .slice p.a.A p.x.l.length p.a.c, .slice p.a.D p.x.m.length p.a.d, .bool p.y.p, .slice p.b.A p.y.l.length p.b.c, .slice p.b.D p.y.m.length p.b.d] 51) = Wz at kz ⊢
          refine (CP.out _ (HW.out _ (bt kr kz))).mono ?_
          rintro e W4 ⟨a1, a2, rfl, hcs, o3, hap3, hb⟩
          have hwx := kz.size
          have k9 := bt kz hb
          clear kz hb
          have hsz := k9.size
          have k10 := bt kr k9
          have hsz2 := k10.size
          go_wp2_with (refine append_pt rfl (.tmp 30) (.tmp 33) rfl W3.heap.size _ W3.heap.size wr.heap.size W4.heap.size (.slice A' _ c') M ⟨p.x, p.y, a1, a2⟩ W4 rfl rfl (own6_below HR.out.1 k9) (by omega) hsz2 (HR.out.2.1.below k9) (o3.wide hwx (Nat.le_refl _)) HR.out.2.2 hap3 HVZ.out kr.size hsz (Nat.le_refl _) ?_; intro v' w' hown' hb' hO' hap')
          obtain ⟨A2, c2, rfl⟩ := own_form hown'
          have HX := Lib.hid (And.intro hown' (And.intro hO' (And.intro hap' (And.intro hcs (k10.trans hb')))))
          clear hown' hO' hap' hcs hb' k9 k10 o3 hap3 kr
          go_wp2
          go_roundw
          case rel => exact ⟨1, M ++ [⟨p.x, p.y, a1, a2⟩], A2, c2, by omega, by go_num, rfl, by rw [List.length_append, HF.out.1]; rfl, HX.out.1, by rw [dat_app, HF.out.2.1]; rfl, cap_app (q := ⟨p.x, p.y, a1, a2⟩) HF.out.2.2 HX.out.2.2.2.1, HX.out.2.1, HX.out.2.2.1, HX.out.2.2.2.2⟩
          case measure => simp [intOf]
        · skip
          go_wp2_with (simp only [run_indexP_1])
          have kz := ba1 wr (.cells #[.bool q.x.p, .slice q.a.A q.x.l.length q.a.c, .slice q.a.D q.x.m.length q.a.d, .bool q.y.p, .slice q.b.A q.y.l.length q.b.c, .slice q.b.D q.y.m.length q.b.d] 51)
          generalize wr.alloc (.cells #[.bool q.x.p, .slice q.a.A q.x.l.length q.a.c, .slice q.a.D q.x.m.length q.a.d, .bool q.y.p, .slice q.b.A q.y.l.length q.b.c, .slice q.b.D q.y.m.length q.b.d] 51) = Wz at kz ⊢
          refine (CQ.out _ (HW.out _ (bt kr kz))).mono ?_
          rintro e W4 ⟨a1, a2, rfl, hcs, o3, hap3, hb⟩
          have hwx := kz.size
          have k9 := bt kz hb
          clear kz hb
          have hsz := k9.size
          have k10 := bt kr k9
          have hsz2 := k10.size
          go_wp2_with (refine append_pt rfl (.tmp 30) (.tmp 33) rfl W3.heap.size _ W3.heap.size wr.heap.size W4.heap.size (.slice A' _ c') M ⟨q.x, q.y, a1, a2⟩ W4 rfl rfl (own6_below HR.out.1 k9) (by omega) hsz2 (HR.out.2.1.below k9) (o3.wide hwx (Nat.le_refl _)) HR.out.2.2 hap3 HVZ.out kr.size hsz (Nat.le_refl _) ?_; intro v' w' hown' hb' hO' hap')
          obtain ⟨A2, c2, rfl⟩ := own_form hown'
          have HX := Lib.hid (And.intro hown' (And.intro hO' (And.intro hap' (And.intro hcs (k10.trans hb')))))
          clear hown' hO' hap' hcs hb' k9 k10 o3 hap3 kr
          go_wp2
          go_roundw
          case rel => exact ⟨2, M ++ [⟨q.x, q.y, a1, a2⟩], A2, c2, by omega, by go_num, rfl, by rw [List.length_append, HF.out.1]; rfl, HX.out.1, by rw [dat_app, HF.out.2.1]; rfl, cap_app (q := ⟨q.x, q.y, a1, a2⟩) HF.out.2.2 HX.out.2.2.2.1, HX.out.2.1, HX.out.2.2.1, HX.out.2.2.2.2⟩
          case measure => simp [intOf]
        · skip
          go_wp2_with (simp only [run_indexP_2])
          have kz := ba1 wr (.cells #[.bool r.x.p, .slice r.a.A r.x.l.length r.a.c, .slice r.a.D r.x.m.length r.a.d, .bool r.y.p, .slice r.b.A r.y.l.length r.b.c, .slice r.b.D r.y.m.length r.b.d] 51)
          generalize wr.alloc (.cells #[.bool r.x.p, .slice r.a.A r.x.l.length r.a.c, .slice r.a.D r.x.m.length r.a.d, .bool r.y.p, .slice r.b.A r.y.l.length r.b.c, .slice r.b.D r.y.m.length r.b.d] 51) = Wz at kz ⊢
          refine (CR.out _ (HW.out _ (bt kr kz))).mono ?_
          rintro e W4 ⟨a1, a2, rfl, hcs, o3, hap3, hb⟩
          have hwx := kz.size
          have k9 := bt kz hb
          clear kz hb
          have hsz := k9.size
          have k10 := bt kr k9
          have hsz2 := k10.size
          go_wp2_with (refine append_pt rfl (.tmp 30) (.tmp 33) rfl W3.heap.size _ W3.heap.size wr.heap.size W4.heap.size (.slice A' _ c') M ⟨r.x, r.y, a1, a2⟩ W4 rfl rfl (own6_below HR.out.1 k9) (by omega) hsz2 (HR.out.2.1.below k9) (o3.wide hwx (Nat.le_refl _)) HR.out.2.2 hap3 HVZ.out kr.size hsz (Nat.le_refl _) ?_; intro v' w' hown' hb' hO' hap')
          obtain ⟨A2, c2, rfl⟩ := own_form hown'
          have HX := Lib.hid (And.intro hown' (And.intro hO' (And.intro hap' (And.intro hcs (k10.trans hb')))))
          clear hown' hO' hap' hcs hb' k9 k10 o3 hap3 kr
          go_wp2
          go_roundw
          case rel => exact ⟨3, M ++ [⟨r.x, r.y, a1, a2⟩], A2, c2, by omega, by go_num, rfl, by rw [List.length_append, HF.out.1]; rfl, HX.out.1, by rw [dat_app, HF.out.2.1]; rfl, cap_app (q := ⟨r.x, r.y, a1, a2⟩) HF.out.2.2 HX.out.2.2.2.1, HX.out.2.1, HX.out.2.2.1, HX.out.2.2.2.2⟩
          case measure => simp [intOf]
        · have HX := Lib.hid (made_list (L := [p, q, r]) HR.out.1 HZ.out HZ.out HF.out.1 HF.out.2.1 HF.out.2.2 HR.out.2.1 HR.out.2.2 (HW.out _ kr))
          clear kr
          go_wp2
          go_ret
          exact HX.out
theorem impl_corners (m : MV) (k0 : Int) (w : World) (hm : ShortM m) (hA : Rds w (srow m.A m.L)) (hB : Rds w [(m.B, flatT m.T)]) :
    Calls Try.prog 8 #[.agg #[.slice m.A m.L.length m.c, .slice m.B m.T.length m.d], .int .i64 k0] w (MadePS w.heap.size (corV m.L m.T k0) w) :=
  impl_corners0 m.L m.T m.A m.B m.c m.d k0 w hm.1 hm.2.1 hm.2.2 hA hB.hd
end Go.Proofs.Ytenjjojbjpmhbaa
