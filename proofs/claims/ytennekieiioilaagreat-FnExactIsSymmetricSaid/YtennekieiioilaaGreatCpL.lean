/-
  Copies of rows whatever they hold: 'copyRow', 'copied'.
-/
import Derived.Test.YtennekieiioilaaGreatPkF
import Derived.Test.YtennekieiioilaaGreatR3
namespace Go.Proofs.YtennekieiioilaaGreat
open Go.ChangeShapes Go.WideShapes Go.ChangeAt Go.RowKit
open Go.ChangeMaps (open_string shut_string)
set_option linter.unusedVariables false
set_option linter.unusedSimpArgs false
set_option maxRecDepth 4000

set_option maxHeartbeats 800000 in
theorem copy_list (l : List Int) (A : Option Addr) (n c : Nat) (w : World) (hl : l.length = n) (hn : n ≤ 1048576) (hA : RdS w A (vi l)) :
    Calls Tryz.prog 84 #[.slice A n c, .int .i64 0] w fun q w' => ∃ g, w.heap.size ≤ g ∧ q = .returned (.slice (some ⟨g, 0, none⟩) n n) ∧ Blk w' g l ∧ Below w.heap.size w w' := by
  obtain ⟨i0, hi, hz0, hz1, hz2⟩ := info_parts int_info
  have HL := Lib.hid hl
  have hinfo : (Tryz.prog.info? 3).map (·.size) = some 1 := by rw [hi]; simp [hz1]
  clear hl
  go_enter Tryz.func84, Tryz.ntmps84
  go_wp2_with (refine wpList_make_full _ rfl (.tmp 9) (.tmp 9) 26 rfl w.heap.size 3 i0 _ 1 Tryz.underlying26 hi hz0 hz1 .i64 .i64 ((n : Int) + 0) ((n : Int) + 0) n rfl rfl (by omega) (by omega) (by rw [hz2]; omega) (by simp only [maxLen]; omega) (Nat.le_refl _) ?_; intro w1 hown hg; refine cut_here ?_)
  have hb1 : Below w.heap.size w w1 := below_of_grown hg (Nat.le_refl _) (fun g h => by cases h)
  have hB := Blk.of_made hown (zeros n)
  have hA1 := hA.below hb1
  clear hown hg
  have hlen : (vi l).length = n := by rw [vi_length, HL.out]
  have hpos : 0 < (vi l).length → (some (⟨w.heap.size, 0, none⟩ : Addr)) = some ⟨w.heap.size, 0, none⟩ ∧ ∃ ad, A = some ad ∧ ∀ j x, (vi l)[j]? = some x → w1.cell? (ad.add j) = some x := fun h0 => by
    obtain ⟨b, off, ha, hbl, hc⟩ := hA1.block h0
    refine ⟨rfl, ⟨b, off, none⟩, ha, fun j x hx => ?_⟩
    have hj : j < (vi l).length := by
      rcases Nat.lt_or_ge j (vi l).length with h1 | h1
      · exact h1
      · rw [List.getElem?_eq_none h1] at hx; cases hx
    rw [add_plain, hc j hj, hx]
  have hsp : splice (vi (row n 0)) 0 (vi l) = vi l := by
    unfold splice
    rw [List.take_zero, List.nil_append, Nat.zero_add, List.drop_of_length_le (by rw [hlen, vi_length, row_length]; exact Nat.le_refl _), List.append_nil]
  have hsm : ∀ x ∈ vi l, x.oneCell' = true := by
    intro x hx
    obtain ⟨y, _, rfl⟩ := List.mem_map.1 hx
    rfl
  have hmin : (vi l).length = Nat.min n n := by rw [hlen]; exact (Nat.min_eq_left (Nat.le_refl _)).symm
  have hfit : 0 + (vi l).length ≤ (vi (row n 0)).length := by rw [hlen, vi_length, row_length]; omega
  have HSP := Lib.hid hsp
  clear hsp hlen
  generalize hcs0 : vi l = cs at *
  have HCS := Lib.hid hcs0
  clear hcs0
  generalize hcur : vi (row n 0) = cur at *
  have hB' : w1.heap[w.heap.size]? = some (.cells cur.toArray 3 (0, 0)) := by rw [← hcur]; exact hB
  clear hcur hB
  refine Cut.of ?_
  go_wp2_with (with_reducible show wpList _ _ _ _ _ _; refine wpList_copy_splice (o := ⟨some 13, _, _, _, _, _⟩) rfl (.tmp 11) (.tmp 12) 26 26 rfl 3 Tryz.underlying26 hinfo (some ⟨w.heap.size, 0, none⟩) A n n n c rfl rfl w.heap.size 0 cur 3 hB' cs hmin hpos hfit hsm w.heap.size w hb1 (Nat.le_refl _) ?_; intro w2 HG2 hB2)
  go_ret
  refine ⟨w.heap.size, Nat.le_refl _, rfl, ?_, hB2⟩
  have h2 := HG2.out
  rw [HSP.out, ← HCS.out] at h2
  exact h2
theorem copy_made (l : List Int) (A : Option Addr) (n c : Nat) (w : World) (hl : l.length = n) (hn : n ≤ 1048576) (hA : RdS w A (vi l)) :
    Calls Tryz.prog 84 #[.slice A n c, .int .i64 0] w (MadeI w.heap.size l w) :=
  (copy_list l A n c w hl hn hA).mono fun e w' ⟨g, hg, he, hB, hb⟩ =>
    ⟨some ⟨g, 0, none⟩, n, by rw [he, hl], by rw [hl]; exact Nat.le_refl _, hB.own hg, hb⟩
attribute [local go_sem ↓] Go.wp_at_zero Go.wp_at_succ
set_option maxHeartbeats 1000000 in
theorem copied_l (pr : Bool) (LA LD : List Int) (A D : Option Addr) (n k c d : Nat) (w : World) (hn : LA.length = n) (hk : LD.length = k) (h6 : n ≤ 1048576) (h6' : k ≤ 1048576) (hA : RdS w A (vi (LA))) (hD : RdS w D (vi (LD))) :
    Calls Tryz.prog 60 #[.agg #[.bool pr, .slice A n c, .slice D k d]] w (MadeR w.heap.size pr (LA) (LD) w) := by
  have C1 := Lib.hid (fun W h => copy_made LA A n c W hn h6 h)
  have C2 := Lib.hid (fun W h => copy_made LD D k d W hk h6' h)
  have RR : Hid (∀ W, Below w.heap.size w W → RdS W A (vi (LA)) ∧ RdS W D (vi (LD))) := Lib.hid (fun W hb => ⟨hA.below hb, hD.below hb⟩)
  clear hn hk h6 h6' hA hD
  go_enter Tryz.func60, Tryz.ntmps60
  go_wp2_with fail
  have kb := ba2 w (.cells #[.bool pr, .slice A n c, .slice D k d] 30) (.cells #[.bool false, .slice none 0 0, .slice none 0 0] 30)
  obtain ⟨P_r, P_o⟩ := blocks2 w (.cells #[.bool pr, .slice A n c, .slice D k d] 30) (.cells #[.bool false, .slice none 0 0, .slice none 0 0] 30)
  generalize (w.alloc (.cells #[.bool pr, .slice A n c, .slice D k d] 30)).alloc (.cells #[.bool false, .slice none 0 0, .slice none 0 0] 30) = W1 at kb P_r P_o ⊢
  obtain ⟨rr, hrr⟩ : ∃ r, r = w.heap.size + 1 := ⟨_, rfl⟩
  rw [← hrr] at P_o ⊢
  have hrr3 : w.heap.size ≤ rr := by omega
  have nr_r : rr ≠ w.heap.size := by omega
  clear hrr
  have hlo1 := kb.size
  have hlt1 := rblk_lt P_o
  have SB : Hid (∀ w', Below W1.heap.size W1 w' → (w'.cell? ⟨w.heap.size, 0, none⟩ = some (.bool pr) ∧ w'.cell? ⟨w.heap.size, 1, none⟩ = some (.slice A n c) ∧ w'.cell? ⟨w.heap.size, 2, none⟩ = some (.slice D k d) ∧ Below W1.heap.size W1 w')) := Lib.hid (fun w' hB => ⟨rblk_cell (rblk_below P_r hB) 0, rblk_cell (rblk_below P_r hB) 1, rblk_cell (rblk_below P_r hB) 2, hB⟩)
  have KW := Lib.hid kb
  go_cut [3] (fun sv wx => CutP W1 28 (pr) (LA) sv wx)
  case first =>
    clear kb
    go_region_held3 (fun w' => w'.cell? ⟨w.heap.size, 0, none⟩ = some (.bool pr) ∧ w'.cell? ⟨w.heap.size, 1, none⟩ = some (.slice A n c) ∧ w'.cell? ⟨w.heap.size, 2, none⟩ = some (.slice D k d) ∧ Below W1.heap.size W1 w')
      (first | (exact SB.out _ (Below.refl _ _).drew) | (exact SB.out _ (ba1 _ _).drew) | (exact SB.out _ (ba1 _ _)) | (go_split_ands; exact SB.out _ (bt (by assumption : Below W1.heap.size W1 _) hb)) | (go_split_ands; exact SB.out _ (Below.alloc (by assumption : Below W1.heap.size W1 _) (Below.size (by assumption : Below W1.heap.size W1 _)) _)) | (go_split_ands; exact SB.out _ (below_put2 (by assumption : Below W1.heap.size W1 _) (by first | exact Nat.le_refl _ | assumption) _ _)))
      (first | (go_at_call 84; go_split_ands; ((with_reducible refine (C1.out _ (RR.out _ (bt KW.out (by assumption : Below W1.heap.size W1 _))).1).mono ?_); rintro e Wn0 ⟨Aa, ca, rfl, hca, oa, hb⟩; skip; have KB0 := (by assumption : Below W1.heap.size W1 _); have KB := bt KB0 hb; have hsC := KB.size; have hoa := oa.more KB0.size; (first | (have tt := (tt_a hb).1; have hgB := (tt_a hb).2) | (have tt := (tt_b hb).1; have hgB := (tt_b hb).2) | (have hgB := (tt_c tt hb).2; replace tt := (tt_c tt hb).1) | skip); (first | (have t0 := rblk_cell tt 0; have q0 := rblk_free tt 0; have t1 := rblk_cell tt 1; have q1 := rblk_free tt 1) | skip))))
    all_goals (go_wp2_with fail; go_meet; first | exact ⟨_, Aa, ca, rfl, hsC, hca, heap_alloc_new _ _, hoa.below (ba1 _ _), KB.alloc KB.size _⟩ | exact ⟨_, Aa, ca, rfl, (by first | exact Nat.le_refl _ | assumption), hca, rblk_set (rblk_set tt 0 _) 1 _, (own_put2 oa hgB _ _).more KB0.size, below_put2 KB (by first | exact Nat.le_refl _ | assumption) _ _⟩)
  case rest =>
    obtain ⟨g_m, Aa, ca, rfl, hlo_m, hca, P_m, oa, hb⟩ := hcut
    have nr_m : rr ≠ g_m := by have h1 := rblk_lt P_o; omega
    obtain ⟨W2, hWn⟩ : ∃ W', W' = wc := ⟨_, rfl⟩
    subst hWn
    replace P_r := rblk_below P_r hb
    replace P_o := rblk_below P_o hb
    replace kb := bt kb hb
    clear hb KW SB
    go_wp2_with fail
    have SB : Hid (∀ w', Keep3 W2 w' rr → (w'.cell? ⟨w.heap.size, 0, none⟩ = some (.bool pr) ∧ w'.cell? ⟨w.heap.size, 1, none⟩ = some (.slice A n c) ∧ w'.cell? ⟨w.heap.size, 2, none⟩ = some (.slice D k d) ∧ w'.cell? ⟨g_m, 0, none⟩ = some (.bool pr) ∧ w'.cell? ⟨g_m, 1, none⟩ = some (.slice Aa LA.length ca) ∧ Keep3 W2 w' rr)) := Lib.hid (fun w' hK => ⟨rblk_cell (hK.block P_r nr_r) 0, rblk_cell (hK.block P_r nr_r) 1, rblk_cell (hK.block P_r nr_r) 2, rblk_cell (hK.block P_m nr_m) 0, rblk_cell (hK.block P_m nr_m) 1, hK⟩)
    have KW := Lib.hid kb
    have KST := Keep3.start P_o
    clear kb
    go_region_held3 (fun w' => w'.cell? ⟨w.heap.size, 0, none⟩ = some (.bool pr) ∧ w'.cell? ⟨w.heap.size, 1, none⟩ = some (.slice A n c) ∧ w'.cell? ⟨w.heap.size, 2, none⟩ = some (.slice D k d) ∧ w'.cell? ⟨g_m, 0, none⟩ = some (.bool pr) ∧ w'.cell? ⟨g_m, 1, none⟩ = some (.slice Aa LA.length ca) ∧ Keep3 W2 w' rr)
      (first | (exact SB.out _ KST.drew) | (exact SB.out _ KST) | (exact SB.out _ (KST.below (ba1 _ _))) | (exact SB.out _ (KST.drew.below (ba1 _ _))) | (go_split_ands; exact SB.out _ (Keep3.below (by assumption : Keep3 W2 _ rr) hb)) | (go_split_ands; exact SB.out _ (Keep3.put3 (by assumption : Keep3 W2 _ rr) _ _ _)) | (go_split_ands; exact SB.out _ (Keep3.below (by assumption : Keep3 W2 _ rr) (ba1 _ _))))
      (first | (go_at_call 84; go_split_ands; ((with_reducible refine (C2.out _ (RR.out _ (Keep3.base (by assumption : Keep3 W2 _ rr) KW.out hrr3)).2).mono ?_); rintro e Wn1_0 ⟨Ab, cb, rfl, hcb, ob, hb⟩; have hltr := Keep3.lt (by assumption : Keep3 W2 _ rr); have KL := Keep3.below (by assumption : Keep3 W2 _ rr) hb; obtain ⟨u0, u1, u2, t0, t1, t2, t3, t4, t5⟩ := KL.cells; have hap := (oa.inR (vi_length LA)).apart (ob.inR (vi_length LD)) (.inl (Nat.le_refl _)); (first | replace oa := oa.below hb | replace oa := (OwnS.drew' oa).below hb | replace oa := (oa.below (ba1 _ _)).below hb | replace oa := (OwnS.drew' (oa.below (ba1 _ _))).below hb | replace oa := ((OwnS.drew' oa).below (ba1 _ _)).below hb))))
    all_goals
      have hfin := (‹_ ∧ _ ∧ _ ∧ _ ∧ _ ∧ Keep3 W2 _ rr›).2.2.2.2.2
      go_wp2
      exact bodyPost_ret (v := .agg #[.bool pr, .slice Aa LA.length ca, .slice Ab LD.length cb]) (by simp [results, Tryz.results60, go_sem, t0, t1, t2]) rfl ⟨Aa, ca, Ab, cb, rfl, hca, hcb, (own_put3 oa hlt1 _ _ _).more hlo1, (own_put3 ob hltr _ _ _).more (Nat.le_trans hrr3 (Nat.le_of_lt hltr)), hap, hfin.base KW.out hrr3⟩
theorem copied_x (x : R3) (a : Ad) (w : World) (hs : Short x) (h : Rds w (rows x a)) :
    Calls Tryz.prog 60 #[.agg #[.bool x.p, .slice a.A x.l.length a.c, .slice a.D x.m.length a.d]] w (MadeQ w.heap.size x w) :=
  (copied_l x.p x.l x.m a.A a.D x.l.length x.m.length a.c a.d w rfl rfl hs.1 hs.2 (rows_rd h).1 (rows_rd h).2).mono fun e w' h => h.toQ
end Go.Proofs.YtennekieiioilaaGreat
