/-
  The built-in L: the program.
-/
import Derived.Test.YtjcbaiphkchehaaSqI
namespace Go.Proofs.Ytjcbaiphkchehaa
open Go.ChangeShapes Go.WideShapes Go.ChangeAt Go.RowKit
open Go.ChangeMaps (open_string shut_string)
set_option linter.unusedVariables false
set_option linter.unusedSimpArgs false
set_option maxRecDepth 4000

/-- The points and the triangles of the built-in L. -/
def cx : Nat → Int
  | 0 => 0
  | 1 => 1
  | 2 => 2
  | 3 => 2
  | 4 => 1
  | 5 => 1
  | 6 => 0
  | _ => 0
def cy : Nat → Int
  | 0 => 0
  | 1 => 0
  | 2 => 0
  | 3 => 1
  | 4 => 1
  | 5 => 2
  | 6 => 2
  | _ => 1
def ca : Nat → Int
  | 0 => 1
  | 1 => 7
  | 2 => 3
  | 3 => 1
  | 4 => 7
  | _ => 5
def cb : Nat → Int
  | 0 => 4
  | 1 => 0
  | 2 => 4
  | 3 => 2
  | 4 => 4
  | _ => 6
def cc : Nat → Int
  | 0 => 0
  | 1 => 4
  | 2 => 2
  | 3 => 4
  | 4 => 6
  | _ => 4
def coP (i : Nat) : List (R3 × R3) := (List.range i).map (fun k => (rfi (cx k), rfi (cy k)))
def coT (i : Nat) : List TV := (List.range i).map (fun k => (⟨ca k, cb k, cc k, 0, 0⟩ : TV))
theorem coP_succ (i : Nat) : coP (i + 1) = coP i ++ [(rfi (cx i), rfi (cy i))] := by unfold coP; rw [List.range_succ, List.map_append]; rfl
theorem coT_succ (i : Nat) : coT (i + 1) = coT i ++ [⟨ca i, cb i, cc i, 0, 0⟩] := by unfold coT; rw [List.range_succ, List.map_append]; rfl
theorem coP_len (i : Nat) : (coP i).length = i := by simp [coP]
theorem coT_len (i : Nat) : (coT i).length = i := by simp [coT]
def coM : MV := mvOf (coP 8) (coT 6)
theorem c_range (i : Nat) : (0 ≤ cx i ∧ cx i ≤ 7) ∧ (0 ≤ cy i ∧ cy i ≤ 7) ∧ (0 ≤ ca i ∧ ca i ≤ 7) ∧ (0 ≤ cb i ∧ cb i ≤ 7) ∧ 0 ≤ cc i ∧ cc i ≤ 7 := by
  refine ⟨?_, ?_, ?_, ?_, ?_⟩
  · unfold cx; split <;> decide
  · unfold cy; split <;> decide
  · unfold ca; split <;> decide
  · unfold cb; split <;> decide
  · unfold cc; split <;> decide
theorem lit8 {W : World} {g : Nat} (h : W.heap[g]? = some (.cells #[.int .i64 0, .int .i64 0, .int .i64 1, .int .i64 0, .int .i64 2, .int .i64 0, .int .i64 2, .int .i64 1, .int .i64 1, .int .i64 1, .int .i64 1, .int .i64 2, .int .i64 0, .int .i64 2, .int .i64 0, .int .i64 1] 50 (0, 0))) {j : Nat} (hj : j < 8) : W.cell? ⟨g, j * 2, none⟩ = some (.int .i64 (cx j)) ∧ W.cell? ⟨g, j * 2 + 1, none⟩ = some (.int .i64 (cy j)) := by
  rw [rblk_cell h, rblk_cell h]
  have hc : j = 0 ∨ j = 1 ∨ j = 2 ∨ j = 3 ∨ j = 4 ∨ j = 5 ∨ j = 6 ∨ j = 7 := by omega
  rcases hc with rfl | rfl | rfl | rfl | rfl | rfl | rfl | rfl <;> exact ⟨rfl, rfl⟩
theorem lit6 {W : World} {g : Nat} (h : W.heap[g]? = some (.cells #[.int .i64 1, .int .i64 4, .int .i64 0, .int .i64 7, .int .i64 0, .int .i64 4, .int .i64 3, .int .i64 4, .int .i64 2, .int .i64 1, .int .i64 2, .int .i64 4, .int .i64 7, .int .i64 4, .int .i64 6, .int .i64 5, .int .i64 6, .int .i64 4] 52 (0, 0))) {j : Nat} (hj : j < 6) : W.cell? ⟨g, j * 3, none⟩ = some (.int .i64 (ca j)) ∧ W.cell? ⟨g, j * 3 + 1, none⟩ = some (.int .i64 (cb j)) ∧ W.cell? ⟨g, j * 3 + 2, none⟩ = some (.int .i64 (cc j)) := by
  rw [rblk_cell h, rblk_cell h, rblk_cell h]
  have hc : j = 0 ∨ j = 1 ∨ j = 2 ∨ j = 3 ∨ j = 4 ∨ j = 5 := by omega
  rcases hc with rfl | rfl | rfl | rfl | rfl | rfl <;> exact ⟨rfl, rfl, rfl⟩
set_option maxHeartbeats 8000000 in
theorem impl_corner (w : World) : Calls Try.prog 11 #[] w (MadeMi w.heap.size coM w) := by
  have HP := Lib.hid (fun (j : Nat) W => impl_pointAt (cx j) (cy j) W (by have := c_range j; omega) (by have := c_range j; omega))
  unfold MadeP at HP
  go_enter Try.func11, Try.ntmps11
  go_wp2_with fail
  have kb := ba3 w (.cells #[.slice none 0 0, .slice none 0 0] 25) (.cells #[.slice none 0 0, .slice none 0 0] 25) (.cells #[.int .i64 0, .int .i64 0, .int .i64 1, .int .i64 0, .int .i64 2, .int .i64 0, .int .i64 2, .int .i64 1, .int .i64 1, .int .i64 1, .int .i64 1, .int .i64 2, .int .i64 0, .int .i64 2, .int .i64 0, .int .i64 1] 50)
  obtain ⟨P_r, P_m, P_l⟩ := blocks3 w (.cells #[.slice none 0 0, .slice none 0 0] 25) (.cells #[.slice none 0 0, .slice none 0 0] 25) (.cells #[.int .i64 0, .int .i64 0, .int .i64 1, .int .i64 0, .int .i64 2, .int .i64 0, .int .i64 2, .int .i64 1, .int .i64 1, .int .i64 1, .int .i64 1, .int .i64 2, .int .i64 0, .int .i64 2, .int .i64 0, .int .i64 1] 50)
  have hs0 := rblk_lt P_l
  generalize ((w.alloc (.cells #[.slice none 0 0, .slice none 0 0] 25)).alloc (.cells #[.slice none 0 0, .slice none 0 0] 25)).alloc (.cells #[.int .i64 0, .int .i64 0, .int .i64 1, .int .i64 0, .int .i64 2, .int .i64 0, .int .i64 2, .int .i64 1, .int .i64 1, .int .i64 1, .int .i64 1, .int .i64 2, .int .i64 0, .int .i64 2, .int .i64 0, .int .i64 1] 50) = W1 at kb P_r P_m P_l hs0 ⊢
  have G : Gm (w.heap.size + 3) W1.heap.size W1 [] [] (.slice none 0 0) (.slice none 0 0) := Gm.start (Nat.le_refl _)
  go_loopw [16] (fun i w' => ∃ (j : Nat) (M : List PV) (A : Option Addr) (c hi : Nat), j ≤ 8 ∧ i = .int .i64 (j : Int) ∧ dat M = coP j ∧ w'.heap[w.heap.size + 2]? = some (.cells #[.int .i64 0, .int .i64 0, .int .i64 1, .int .i64 0, .int .i64 2, .int .i64 0, .int .i64 2, .int .i64 1, .int .i64 1, .int .i64 1, .int .i64 1, .int .i64 2, .int .i64 0, .int .i64 2, .int .i64 0, .int .i64 1] 50 (0, 0)) ∧ Gm (w.heap.size + 3) hi w' M [] (.slice A M.length c) (.slice none 0 0) ∧ w.heap.size + 3 ≤ hi ∧ w'.heap[w.heap.size + 1]? = some (.cells #[.slice A M.length c, .slice none 0 0] 25 (0, 0)) ∧ w'.heap[w.heap.size]? = some (.cells #[.slice none 0 0, .slice none 0 0] 25 (0, 0)) ∧ Below w.heap.size w w') (fun i _ => 8 - (intOf i).toNat)
  case atStart => exact ⟨0, [], none, 0, _, by omega, rfl, rfl, P_l, G, hs0, P_m, P_r, kb⟩
  case round =>
    clear G hs0 P_m P_r kb P_l
    obtain ⟨j, M, A, c, hi, hj, rfl, hd, P_l, G, hB, P_m, P_r, kb⟩ := hrel
    have hl : M.length = j := by have := congrArg List.length hd; rw [coP_len] at this; simpa [dat] using this
    have HL : Hid (M.length ≤ 8) := Lib.hid (by omega)
    have HD := Lib.hid hd
    clear hd
    by_cases hlt : j < 8
    · have hi1 : (j : Int) < 8 := by omega
      have hi0 : (0 : Int) ≤ (j : Int) := by omega
      clear hl
      obtain ⟨c0, c1⟩ := lit8 P_l hlt
      go_wp2_with fail
      clear c0 c1
      have P_x := heap_alloc_new wr (.cells #[.int .i64 (cx j), .int .i64 (cy j)] 50)
      have hb := ba1 wr (.cells #[.int .i64 (cx j), .int .i64 (cy j)] 50)
      have hgm := rblk_lt P_m
      have hgh := G.hh
      replace P_m := rblk_below P_m hb
      replace P_r := rblk_below P_r hb
      replace P_l := rblk_below P_l hb
      replace G := G.below hb
      replace kb := bt kb hb
      clear hb
      generalize wr.alloc _ = W2 at *
      generalize wr.heap.size = gx at *
      have hd0 : Below W2.heap.size W2 W2.drew := (Below.refl _ _).drew
      replace P_m := rblk_below P_m hd0
      replace P_r := rblk_below P_r hd0
      replace P_x := rblk_below P_x hd0
      replace G := G.below hd0
      replace kb := bt kb hd0
      replace P_l := rblk_below P_l hd0
      clear hd0
      refine wp_region_held_drew (S := fun w' => w'.heap[gx]? = some (.cells #[.int .i64 (cx j), .int .i64 (cy j)] 50 (0, 0))) (by kernel_rfl) P_x (fun hHeld => ?_)
      generalize W2.drew = Wd at *
      refine tk (i := 0) (v := ?vg1_1) rfl (by kernel_rfl) (fun _ _ _ h => h) (Or.inl ⟨by rfl, ?hg1_1⟩) hHeld ?_
      case hg1_1 => (intro w hSw; (try dsimp only at hSw); go_simp; (try with_reducible rfl))
      try simp only [ps]
      refine tk (i := 2) (v := ?vg1_2) rfl (by kernel_rfl) (fun _ _ _ h => h) (Or.inl ⟨by rfl, ?hg1_2⟩) hHeld ?_
      case hg1_2 => (intro w hSw; (try dsimp only at hSw); go_simp; (try with_reducible rfl))
      try simp only [ps]
      refine tk (i := 3) (v := ?vg1_3) rfl (by kernel_rfl) (fun _ _ _ h => h) (Or.inl ⟨by rfl, ?hg1_3⟩) hHeld ?_
      case hg1_3 => (intro w hSw; (try dsimp only at hSw); have s0 := rblk_cell hSw 0; go_simp; (try with_reducible rfl))
      try simp only [ps]
      refine tk (i := 4) (v := ?vg1_4) rfl (by kernel_rfl) (fun _ _ _ h => h) (Or.inl ⟨by rfl, ?hg1_4⟩) hHeld ?_
      case hg1_4 => (intro w hSw; (try dsimp only at hSw); go_simp; (try with_reducible rfl))
      try simp only [ps]
      refine tk (i := 5) (v := ?vg1_5) rfl (by kernel_rfl) (fun _ _ _ h => h) (Or.inl ⟨by rfl, ?hg1_5⟩) hHeld ?_
      case hg1_5 => (intro w hSw; (try dsimp only at hSw); have s1 := rblk_cell hSw 1; go_simp; (try with_reducible rfl))
      try simp only [ps]
      refine wpAnyH_ready (rs := [1, 6]) (by kernel_rfl) (by simp) ?_
      refine rc1 rfl (fun K hK => ?_) (rc1 rfl (fun K hK => ?_) AllReadyH.nil)
      · skip
        have t0 := rblk_cell P_m 0
        go_simp
        clear t0
        refine hK.out _ _ P_x (fun hH => ?_)
        replace hHeld := hH
        clear hK K hH
        try simp only [ps]
        refine rd1 (i := 6) (by kernel_rfl) rfl (fun K hK => ?_)
        have hz0 := G.hh
        go_simp
        (go_at_call 15; ((with_reducible refine (HP.out j _).mono ?_); rintro e Wc ⟨a1, a2, rfl, hcs, oq, apq, hb⟩))
        replace P_m := rblk_below P_m hb
        replace P_r := rblk_below P_r hb
        replace P_x := rblk_below P_x hb
        replace G := G.below hb
        replace kb := bt kb hb
        replace P_l := rblk_below P_l hb
        clear hb hcs
        refine hK.out _ _ P_x (fun hH => ?_)
        replace hHeld := hH
        clear hK K hH
        try simp only [ps]
        refine rd1 (i := 7) (by kernel_rfl) rfl (fun K hK => ?_)
        go_simp
        refine hK.out _ _ (rblk_below P_x (ba1 _ (.cells #[.bool (rfi (cx j)).p, .slice a1.A (rfi (cx j)).l.length a1.c, .slice a1.D (rfi (cx j)).m.length a1.d, .bool (rfi (cy j)).p, .slice a2.A (rfi (cy j)).l.length a2.c, .slice a2.D (rfi (cy j)).m.length a2.d] 39))) (fun hH => ?_)
        replace hHeld := hH
        clear hK K hH
        try simp only [ps]
        refine rd1 (i := 8) (by kernel_rfl) rfl (fun K hK => ?_)
        refine wanted_op (by rfl) ?_
        refine grow_pt_op (.tmp 21) (.tmp 27) rfl G ⟨(rfi (cx j)), (rfi (cy j)), a1, a2⟩ rfl rfl (by have := HL.out; omega) (by omega) hz0 oq apq ?_
        intro A2 cd w2 G2 k2 t2 _
        have hz2 := k2.size
        replace P_m := (k2.block _ (by omega)).trans P_m
        replace P_r := (k2.block _ (by omega)).trans P_r
        replace P_l := (k2.block _ (by omega)).trans P_l
        replace P_x := t2.blk P_x (.inr hgh)
        replace kb := kb.trans (k2.mono (by omega))
        clear G oq apq k2 t2 hz0
        refine hK.out _ _ P_x (fun hH => ?_)
        replace hHeld := hH
        clear hK K hH
        try simp only [ps]
        refine tk (i := 9) (v := ?vg1_6) rfl (by kernel_rfl) (fun _ _ _ h => h) (Or.inl ⟨by rfl, ?hg1_6⟩) hHeld ?_
        case hg1_6 => (intro w hSw; (try dsimp only at hSw); go_simp; (try with_reducible rfl))
        try simp only [ps]
        refine rd1 (i := 10) (by kernel_rfl) rfl (fun K hK => ?_)
        have t0 := rblk_cell P_m 0
        have q0 := rblk_free P_m 0
        go_simp
        clear t0 q0
        replace P_r := rblk_other P_r 0 (.slice A2 (M.length + 1) cd) (show (w.heap.size + 1) ≠ w.heap.size by omega)
        replace P_x := rblk_other P_x 0 (.slice A2 (M.length + 1) cd) (show (w.heap.size + 1) ≠ gx by omega)
        replace P_l := rblk_other P_l 0 (.slice A2 (M.length + 1) cd) (show (w.heap.size + 1) ≠ (w.heap.size + 2) by omega)
        replace P_m := rblk_set P_m 0 (.slice A2 (M.length + 1) cd)
        replace G2 := G2.put (g := (w.heap.size + 1)) (i := 0) (by omega) (.slice A2 (M.length + 1) cd)
        replace kb := below_put (o := 0) kb (show w.heap.size ≤ (w.heap.size + 1) by omega) (.slice A2 (M.length + 1) cd)
        have hz3 : (w2.setCell ⟨(w.heap.size + 1), 0, none⟩ (.slice A2 (M.length + 1) cd)).heap.size = w2.heap.size := by simp [World.setCell]
        rw [← hz3] at G2
        clear hz3 hz2
        generalize w2.setCell ⟨(w.heap.size + 1), 0, none⟩ (.slice A2 (M.length + 1) cd) = w3 at *
        refine hK.out _ _ P_x (fun hH => ?_)
        replace hHeld := hH
        clear hK K hH
        try simp only [ps]
        refine wpAnyH_done (by kernel_rfl) ?_ _
        rw [show (#[Value.slice A M.length c, Value.slice none 0 0].setIfInBounds 0 (.slice A2 (M.length + 1) cd)) = #[.slice A2 (M.length + 1) cd, .slice none 0 0] from rfl] at P_m
        have HZ := Lib.hid (rblk_lt P_l)
        have HX := Lib.hid (And.intro P_l (And.intro G2 (And.intro P_m (And.intro P_r kb))))
        clear P_l G2 P_m P_r kb P_x hHeld hgm hgh
        go_wp2
        go_roundw
        case rel => exact ⟨j + 1, M ++ [⟨(rfi (cx j)), (rfi (cy j)), a1, a2⟩], A2, cd, _, by omega, by go_num, by rw [dat_app, HD.out, coP_succ]; rfl, HX.out.1, by rw [List.length_append]; exact HX.out.2.1, by have := HZ.out; omega, by rw [List.length_append]; exact HX.out.2.2.1, HX.out.2.2.2.1, HX.out.2.2.2.2⟩
        case measure => simp [intOf]; omega
      · skip
        have hz0 := G.hh
        go_simp
        (go_at_call 15; ((with_reducible refine (HP.out j _).mono ?_); rintro e Wc ⟨a1, a2, rfl, hcs, oq, apq, hb⟩))
        replace P_m := rblk_below P_m hb
        replace P_r := rblk_below P_r hb
        replace P_x := rblk_below P_x hb
        replace G := G.below hb
        replace kb := bt kb hb
        replace P_l := rblk_below P_l hb
        clear hb hcs
        refine hK.out _ _ P_x (fun hH => ?_)
        replace hHeld := hH
        clear hK K hH
        try simp only [ps]
        refine wpAnyH_ready (rs := [1, 7]) (by kernel_rfl) (by simp) ?_
        refine rc1 rfl (fun K hK => ?_) (rc1 rfl (fun K hK => ?_) AllReadyH.nil)
        · skip
          have t0 := rblk_cell P_m 0
          go_simp
          clear t0
          refine hK.out _ _ P_x (fun hH => ?_)
          replace hHeld := hH
          clear hK K hH
          try simp only [ps]
          refine rd1 (i := 7) (by kernel_rfl) rfl (fun K hK => ?_)
          go_simp
          refine hK.out _ _ (rblk_below P_x (ba1 _ (.cells #[.bool (rfi (cx j)).p, .slice a1.A (rfi (cx j)).l.length a1.c, .slice a1.D (rfi (cx j)).m.length a1.d, .bool (rfi (cy j)).p, .slice a2.A (rfi (cy j)).l.length a2.c, .slice a2.D (rfi (cy j)).m.length a2.d] 39))) (fun hH => ?_)
          replace hHeld := hH
          clear hK K hH
          try simp only [ps]
          refine rd1 (i := 8) (by kernel_rfl) rfl (fun K hK => ?_)
          refine wanted_op (by rfl) ?_
          refine grow_pt_op (.tmp 21) (.tmp 27) rfl G ⟨(rfi (cx j)), (rfi (cy j)), a1, a2⟩ rfl rfl (by have := HL.out; omega) (by omega) hz0 oq apq ?_
          intro A2 cd w2 G2 k2 t2 _
          have hz2 := k2.size
          replace P_m := (k2.block _ (by omega)).trans P_m
          replace P_r := (k2.block _ (by omega)).trans P_r
          replace P_l := (k2.block _ (by omega)).trans P_l
          replace P_x := t2.blk P_x (.inr hgh)
          replace kb := kb.trans (k2.mono (by omega))
          clear G oq apq k2 t2 hz0
          refine hK.out _ _ P_x (fun hH => ?_)
          replace hHeld := hH
          clear hK K hH
          try simp only [ps]
          refine tk (i := 9) (v := ?vg1_7) rfl (by kernel_rfl) (fun _ _ _ h => h) (Or.inl ⟨by rfl, ?hg1_7⟩) hHeld ?_
          case hg1_7 => (intro w hSw; (try dsimp only at hSw); go_simp; (try with_reducible rfl))
          try simp only [ps]
          refine rd1 (i := 10) (by kernel_rfl) rfl (fun K hK => ?_)
          have t0 := rblk_cell P_m 0
          have q0 := rblk_free P_m 0
          go_simp
          clear t0 q0
          replace P_r := rblk_other P_r 0 (.slice A2 (M.length + 1) cd) (show (w.heap.size + 1) ≠ w.heap.size by omega)
          replace P_x := rblk_other P_x 0 (.slice A2 (M.length + 1) cd) (show (w.heap.size + 1) ≠ gx by omega)
          replace P_l := rblk_other P_l 0 (.slice A2 (M.length + 1) cd) (show (w.heap.size + 1) ≠ (w.heap.size + 2) by omega)
          replace P_m := rblk_set P_m 0 (.slice A2 (M.length + 1) cd)
          replace G2 := G2.put (g := (w.heap.size + 1)) (i := 0) (by omega) (.slice A2 (M.length + 1) cd)
          replace kb := below_put (o := 0) kb (show w.heap.size ≤ (w.heap.size + 1) by omega) (.slice A2 (M.length + 1) cd)
          have hz3 : (w2.setCell ⟨(w.heap.size + 1), 0, none⟩ (.slice A2 (M.length + 1) cd)).heap.size = w2.heap.size := by simp [World.setCell]
          rw [← hz3] at G2
          clear hz3 hz2
          generalize w2.setCell ⟨(w.heap.size + 1), 0, none⟩ (.slice A2 (M.length + 1) cd) = w3 at *
          refine hK.out _ _ P_x (fun hH => ?_)
          replace hHeld := hH
          clear hK K hH
          try simp only [ps]
          refine wpAnyH_done (by kernel_rfl) ?_ _
          rw [show (#[Value.slice A M.length c, Value.slice none 0 0].setIfInBounds 0 (.slice A2 (M.length + 1) cd)) = #[.slice A2 (M.length + 1) cd, .slice none 0 0] from rfl] at P_m
          have HZ := Lib.hid (rblk_lt P_l)
          have HX := Lib.hid (And.intro P_l (And.intro G2 (And.intro P_m (And.intro P_r kb))))
          clear P_l G2 P_m P_r kb P_x hHeld hgm hgh
          go_wp2
          go_roundw
          case rel => exact ⟨j + 1, M ++ [⟨(rfi (cx j)), (rfi (cy j)), a1, a2⟩], A2, cd, _, by omega, by go_num, by rw [dat_app, HD.out, coP_succ]; rfl, HX.out.1, by rw [List.length_append]; exact HX.out.2.1, by have := HZ.out; omega, by rw [List.length_append]; exact HX.out.2.2.1, HX.out.2.2.2.1, HX.out.2.2.2.2⟩
          case measure => simp [intOf]; omega
        · skip
          go_simp
          refine hK.out _ _ (rblk_below P_x (ba1 _ (.cells #[.bool (rfi (cx j)).p, .slice a1.A (rfi (cx j)).l.length a1.c, .slice a1.D (rfi (cx j)).m.length a1.d, .bool (rfi (cy j)).p, .slice a2.A (rfi (cy j)).l.length a2.c, .slice a2.D (rfi (cy j)).m.length a2.d] 39))) (fun hH => ?_)
          replace hHeld := hH
          clear hK K hH
          try simp only [ps]
          refine rd1 (i := 1) (by kernel_rfl) rfl (fun K hK => ?_)
          have t0 := rblk_cell (rblk_below P_m (ba1 _ (.cells #[.bool (rfi (cx j)).p, .slice a1.A (rfi (cx j)).l.length a1.c, .slice a1.D (rfi (cx j)).m.length a1.d, .bool (rfi (cy j)).p, .slice a2.A (rfi (cy j)).l.length a2.c, .slice a2.D (rfi (cy j)).m.length a2.d] 39))) 0
          go_simp
          clear t0
          refine hK.out _ _ (rblk_below P_x (ba1 _ (.cells #[.bool (rfi (cx j)).p, .slice a1.A (rfi (cx j)).l.length a1.c, .slice a1.D (rfi (cx j)).m.length a1.d, .bool (rfi (cy j)).p, .slice a2.A (rfi (cy j)).l.length a2.c, .slice a2.D (rfi (cy j)).m.length a2.d] 39))) (fun hH => ?_)
          replace hHeld := hH
          clear hK K hH
          try simp only [ps]
          refine rd1 (i := 8) (by kernel_rfl) rfl (fun K hK => ?_)
          refine wanted_op (by rfl) ?_
          refine grow_pt_op (.tmp 21) (.tmp 27) rfl G ⟨(rfi (cx j)), (rfi (cy j)), a1, a2⟩ rfl rfl (by have := HL.out; omega) (by omega) hz0 oq apq ?_
          intro A2 cd w2 G2 k2 t2 _
          have hz2 := k2.size
          replace P_m := (k2.block _ (by omega)).trans P_m
          replace P_r := (k2.block _ (by omega)).trans P_r
          replace P_l := (k2.block _ (by omega)).trans P_l
          replace P_x := t2.blk P_x (.inr hgh)
          replace kb := kb.trans (k2.mono (by omega))
          clear G oq apq k2 t2 hz0
          refine hK.out _ _ P_x (fun hH => ?_)
          replace hHeld := hH
          clear hK K hH
          try simp only [ps]
          refine tk (i := 9) (v := ?vg1_8) rfl (by kernel_rfl) (fun _ _ _ h => h) (Or.inl ⟨by rfl, ?hg1_8⟩) hHeld ?_
          case hg1_8 => (intro w hSw; (try dsimp only at hSw); go_simp; (try with_reducible rfl))
          try simp only [ps]
          refine rd1 (i := 10) (by kernel_rfl) rfl (fun K hK => ?_)
          have t0 := rblk_cell P_m 0
          have q0 := rblk_free P_m 0
          go_simp
          clear t0 q0
          replace P_r := rblk_other P_r 0 (.slice A2 (M.length + 1) cd) (show (w.heap.size + 1) ≠ w.heap.size by omega)
          replace P_x := rblk_other P_x 0 (.slice A2 (M.length + 1) cd) (show (w.heap.size + 1) ≠ gx by omega)
          replace P_l := rblk_other P_l 0 (.slice A2 (M.length + 1) cd) (show (w.heap.size + 1) ≠ (w.heap.size + 2) by omega)
          replace P_m := rblk_set P_m 0 (.slice A2 (M.length + 1) cd)
          replace G2 := G2.put (g := (w.heap.size + 1)) (i := 0) (by omega) (.slice A2 (M.length + 1) cd)
          replace kb := below_put (o := 0) kb (show w.heap.size ≤ (w.heap.size + 1) by omega) (.slice A2 (M.length + 1) cd)
          have hz3 : (w2.setCell ⟨(w.heap.size + 1), 0, none⟩ (.slice A2 (M.length + 1) cd)).heap.size = w2.heap.size := by simp [World.setCell]
          rw [← hz3] at G2
          clear hz3 hz2
          generalize w2.setCell ⟨(w.heap.size + 1), 0, none⟩ (.slice A2 (M.length + 1) cd) = w3 at *
          refine hK.out _ _ P_x (fun hH => ?_)
          replace hHeld := hH
          clear hK K hH
          try simp only [ps]
          refine wpAnyH_done (by kernel_rfl) ?_ _
          rw [show (#[Value.slice A M.length c, Value.slice none 0 0].setIfInBounds 0 (.slice A2 (M.length + 1) cd)) = #[.slice A2 (M.length + 1) cd, .slice none 0 0] from rfl] at P_m
          have HZ := Lib.hid (rblk_lt P_l)
          have HX := Lib.hid (And.intro P_l (And.intro G2 (And.intro P_m (And.intro P_r kb))))
          clear P_l G2 P_m P_r kb P_x hHeld hgm hgh
          go_wp2
          go_roundw
          case rel => exact ⟨j + 1, M ++ [⟨(rfi (cx j)), (rfi (cy j)), a1, a2⟩], A2, cd, _, by omega, by go_num, by rw [dat_app, HD.out, coP_succ]; rfl, HX.out.1, by rw [List.length_append]; exact HX.out.2.1, by have := HZ.out; omega, by rw [List.length_append]; exact HX.out.2.2.1, HX.out.2.2.2.1, HX.out.2.2.2.2⟩
          case measure => simp [intOf]; omega
    · rw [show (j : Int) = 8 by omega]
      obtain rfl : j = 8 := by omega
      have hd0 := HD.out
      clear hl hlt HD HL P_l
      go_wp2_with fail
      have P_l := heap_alloc_new wr (.cells #[.int .i64 1, .int .i64 4, .int .i64 0, .int .i64 7, .int .i64 0, .int .i64 4, .int .i64 3, .int .i64 4, .int .i64 2, .int .i64 1, .int .i64 2, .int .i64 4, .int .i64 7, .int .i64 4, .int .i64 6, .int .i64 5, .int .i64 6, .int .i64 4] 52)
      have hb := ba1 wr (.cells #[.int .i64 1, .int .i64 4, .int .i64 0, .int .i64 7, .int .i64 0, .int .i64 4, .int .i64 3, .int .i64 4, .int .i64 2, .int .i64 1, .int .i64 2, .int .i64 4, .int .i64 7, .int .i64 4, .int .i64 6, .int .i64 5, .int .i64 6, .int .i64 4] 52)
      have hz := G.hh
      replace P_m := rblk_below P_m hb
      replace P_r := rblk_below P_r hb
      replace G := G.below hb
      replace kb := bt kb hb
      clear hb
      generalize wr.alloc (.cells #[.int .i64 1, .int .i64 4, .int .i64 0, .int .i64 7, .int .i64 0, .int .i64 4, .int .i64 3, .int .i64 4, .int .i64 2, .int .i64 1, .int .i64 2, .int .i64 4, .int .i64 7, .int .i64 4, .int .i64 6, .int .i64 5, .int .i64 6, .int .i64 4] 52) = W2 at *
      generalize wr.heap.size = gl at *
      have hgl : w.heap.size + 3 ≤ gl := by omega
      go_loopw [39] (fun i w' => ∃ (j : Nat) (T : List TV) (D : Option Addr) (d hi : Nat), j ≤ 6 ∧ i = .int .i64 (j : Int) ∧ T = coT j ∧ w'.heap[gl]? = some (.cells #[.int .i64 1, .int .i64 4, .int .i64 0, .int .i64 7, .int .i64 0, .int .i64 4, .int .i64 3, .int .i64 4, .int .i64 2, .int .i64 1, .int .i64 2, .int .i64 4, .int .i64 7, .int .i64 4, .int .i64 6, .int .i64 5, .int .i64 6, .int .i64 4] 52 (0, 0)) ∧ Gm (w.heap.size + 3) hi w' M T (.slice A M.length c) (.slice D T.length d) ∧ w.heap.size + 3 ≤ hi ∧ w'.heap[w.heap.size + 1]? = some (.cells #[.slice A M.length c, .slice D T.length d] 25 (0, 0)) ∧ w'.heap[w.heap.size]? = some (.cells #[.slice none 0 0, .slice none 0 0] 25 (0, 0)) ∧ Below w.heap.size w w') (fun i _ => 6 - (intOf i).toNat)
      case atStart => exact ⟨0, [], none, 0, hi, by omega, rfl, rfl, P_l, G, hB, P_m, P_r, kb⟩
      case round =>
        clear G hB P_m P_r kb P_l hz
        obtain ⟨j, T, D, d, hi, hj, rfl, hT, P_l, G, hB, P_m, P_r, kb⟩ := hrel
        have hlT : T.length = j := by rw [hT, coT_len]
        have HD := Lib.hid hT
        clear hT
        by_cases hlt : j < 6
        · have hi1 : (j : Int) < 6 := by omega
          have hi0 : (0 : Int) ≤ (j : Int) := by omega
          obtain ⟨c0, c1, c2⟩ := lit6 P_l hlt
          have HLt : Hid (T.length ≤ 6) := Lib.hid (by omega)
          clear hlT
          go_upto_region 10 with fail
          clear c0 c1 c2
          have P_x := heap_alloc_new wr (.cells #[.int .i64 (ca j), .int .i64 (cb j), .int .i64 (cc j)] 52)
          have hb := ba1 wr (.cells #[.int .i64 (ca j), .int .i64 (cb j), .int .i64 (cc j)] 52)
          replace P_m := rblk_below P_m hb
          replace P_r := rblk_below P_r hb
          replace P_l := rblk_below P_l hb
          replace G := G.below hb
          replace kb := bt kb hb
          clear hb
          generalize wr.alloc _ = W3 at *
          generalize wr.heap.size = gx at *
          have hb := ba1 W3 (.cells #[.int .i64 (ca j), .int .i64 (cb j), .int .i64 (cc j), .int .i64 0, .int .i64 0] 43)
          have GZ := G.below hb
          have CZ := cell_tri W3 ⟨ca j, cb j, cc j, 0, 0⟩
          have PM := Lib.hid (rblk_below P_m hb)
          have PR := Lib.hid (rblk_below P_r hb)
          have PL := Lib.hid (rblk_below P_l hb)
          have KB := Lib.hid (bt kb hb)
          have hz3 := rblk_lt (rblk_below P_m hb)
          have hz4 := rblk_lt (rblk_below P_l hb)
          have s0 := rblk_cell P_x 0
          have s1 := rblk_cell P_x 1
          have s2 := rblk_cell P_x 2
          have s3 := rblk_cell P_m 1
          have GH := Lib.hid (And.intro GZ CZ)
          clear hb G P_m P_r P_l kb P_x GZ CZ
          go_wp2_with (refine grow_tri rfl (.tmp 44) (.tmp 52) rfl GH.out.1 [⟨ca j, cb j, cc j, 0, 0⟩] ⟨W3.heap.size, 0, none⟩ 1 rfl rfl GH.out.2 (by have := HLt.out; simp only [List.length_cons, List.length_nil]; omega) (by omega) ?_; intro D2 dd w5 G5 k5 _ kp; have P_m := (k5.block _ (show w.heap.size + 1 < w.heap.size + 3 by omega)).trans PM.out; have s4 := rblk_cell P_m 1; have s5 := rblk_free P_m 1; have P_l := (kp gl (own_ne (by decide) GH.out.1.ot PL.out) hz4).trans PL.out)
          have P_r := (k5.block _ (show w.heap.size < w.heap.size + 3 by omega)).trans PR.out
          have kb := KB.out.trans (k5.mono (show w.heap.size ≤ w.heap.size + 3 by omega))
          have hz5 := k5.size
          have HX : Hid (_ ∧ _ ∧ _ ∧ _ ∧ _ ∧ _) := Lib.hid ⟨rblk_other P_l 1 (.slice D2 (T.length + 1) dd) (show (w.heap.size + 1) ≠ gl by omega), G5.put (g := w.heap.size + 1) (i := 1) (by omega) (.slice D2 (T.length + 1) dd), (by simp [World.setCell]; omega : w.heap.size + 3 ≤ (w5.setCell ⟨w.heap.size + 1, 1, none⟩ (.slice D2 (T.length + 1) dd)).heap.size), rblk_set P_m 1 (.slice D2 (T.length + 1) dd), rblk_other P_r 1 (.slice D2 (T.length + 1) dd) (show (w.heap.size + 1) ≠ w.heap.size by omega), below_put (o := 1) kb (show w.heap.size ≤ w.heap.size + 1 by omega) (.slice D2 (T.length + 1) dd)⟩
          have HW : Hid ((w5.setCell ⟨w.heap.size + 1, 1, none⟩ (.slice D2 (T.length + 1) dd)).heap.size = w5.heap.size) := Lib.hid (by simp [World.setCell])
          rw [← HW.out] at HX
          go_roundw
          case rel => exact ⟨j + 1, T ++ [⟨ca j, cb j, cc j, 0, 0⟩], D2, dd, _, by omega, by go_num, by rw [HD.out, coT_succ], HX.out.1, by rw [List.length_append]; exact HX.out.2.1, HX.out.2.2.1, by rw [List.length_append]; exact HX.out.2.2.2.1, HX.out.2.2.2.2.1, HX.out.2.2.2.2.2⟩
          case measure => simp [intOf]; omega
        · rw [show (j : Int) = 6 by omega]
          obtain rfl : j = 6 := by omega
          have r0 := rblk_cell P_r 0
          have r1 := rblk_cell P_r 1
          have q0 := rblk_free P_r 0
          have q1 := rblk_free P_r 1
          have HX := Lib.hid (((G.put (g := w.heap.size) (i := 0) (by omega) (.slice A M.length c)).put (g := w.heap.size) (i := 1) (by omega) (.slice D T.length d)).made (B0 := w.heap.size) (m := coM) (by omega) (by unfold coM; rw [datM_of, hd0, HD.out]) (w := w) (below_put (o := 1) (below_put (o := 0) kb (Nat.le_refl _) (.slice A M.length c)) (Nat.le_refl _) (.slice D T.length d)))
          have PZ := rblk_set (rblk_set P_r 0 (.slice A M.length c)) 1 (.slice D T.length d)
          have z0 := rblk_cell PZ 0
          have z1 := rblk_cell PZ 1
          have t0 := rblk_cell P_m 0
          have t1 := rblk_cell P_m 1
          clear hlT P_l
          go_wp2
          exact bodyPost_ret (v := .agg #[.slice A M.length c, .slice D T.length d]) (by simp [results, Try.results11, go_sem, z0, z1]) rfl HX.out
end Go.Proofs.Ytjcbaiphkchehaa
