/-
  The built-in square: the program.
-/
import Derived.Test.YtjcbaiphkchehaaSqA
import Derived.Test.YtjcbaiphkchehaaPtJ
import Derived.Test.YtjcbaiphkchehaaTk
namespace Go.Proofs.Ytjcbaiphkchehaa
open Go.ChangeShapes Go.WideShapes Go.ChangeAt Go.RowKit
open Go.ChangeMaps (open_string shut_string)
set_option linter.unusedVariables false
set_option linter.unusedSimpArgs false
set_option maxRecDepth 4000

/-- The points of the built-in square: the grid's, row by row, and the centers. -/
def sqPt (r i : Nat) : R3 × R3 := (rfi ((i % r : Nat) : Int), rfi ((i / r : Nat) : Int))
def sqMid (n i : Nat) : R3 × R3 := (ofO (ofQ (2 * ((i % n : Nat) : Int) + 1) 2), ofO (ofQ (2 * ((i / n : Nat) : Int) + 1) 2))
def sqLow (n i : Nat) : Int := ((i / n * (n + 1) + i % n : Nat) : Int)
def sqQuad (n i : Nat) : List TV := quadT (((n + 1) * (n + 1) + i : Nat) : Int) (sqLow n i) (sqLow n i + 1) (sqLow n i + ((n + 1 : Nat) : Int) + 1) (sqLow n i + ((n + 1 : Nat) : Int))
def sqG (n i : Nat) : List (R3 × R3) := (List.range i).map (sqPt (n + 1))
def sqP (n i : Nat) : List (R3 × R3) := sqG n ((n + 1) * (n + 1)) ++ (List.range i).map (sqMid n)
def sqT (n i : Nat) : List TV := (List.range i).flatMap (sqQuad n)
/-- A mesh with these data. -/
def mvOf (P : List (R3 × R3)) (T : List TV) : MV := ⟨P.map (fun p => ⟨p.1, p.2, noA, noA⟩), none, 0, T, none, 0⟩
theorem datM_of (P : List (R3 × R3)) (T : List TV) : datM (mvOf P T) = (P, T) := by
  unfold datM mvOf dat
  rw [List.map_map]
  exact congrArg (·, T) ((List.map_congr_left (fun _ _ => rfl)).trans (List.map_id P))
theorem sqG_succ (n i : Nat) : sqG n (i + 1) = sqG n i ++ [sqPt (n + 1) i] := by unfold sqG; rw [List.range_succ, List.map_append]; rfl
theorem sqP_succ (n i : Nat) : sqP n (i + 1) = sqP n i ++ [sqMid n i] := by unfold sqP; rw [List.range_succ, List.map_append, List.append_assoc]; rfl
theorem sqT_succ (n i : Nat) : sqT n (i + 1) = sqT n i ++ sqQuad n i := by unfold sqT; rw [List.range_succ, List.flatMap_append]; simp
theorem sqG_len (n i : Nat) : (sqG n i).length = i := by simp [sqG]
theorem sqP_len (n i : Nat) : (sqP n i).length = (n + 1) * (n + 1) + i := by simp [sqP, sqG]
theorem sqT_len (n i : Nat) : (sqT n i).length = i * 4 := by
  induction i with
  | zero => rfl
  | succ i ih => rw [sqT_succ, List.length_append, ih]; show i * 4 + 4 = _; omega
theorem quad_eq {o a b c d o' a' b' c' d' : Int} (h0 : o = o') (h1 : a = a') (h2 : b = b') (h3 : c = c') (h4 : d = d') : quadT o a b c d = quadT o' a' b' c' d' := by subst h0 h1 h2 h3 h4; rfl
theorem dat_one (q : PV) : dat [q] = [(q.x, q.y)] := rfl
theorem div_lt3 {n i : Nat} (h : i < n * n) : i / n < n := Nat.div_lt_of_lt_mul h
theorem mul_small {n : Nat} (h1 : 1 ≤ n) (h3 : n ≤ 3) : n * n ≤ 9 ∧ (n + 1) * (n + 1) ≤ 16 ∧ ∀ k, k < n → k * (n + 1) ≤ 8 := by
  have hc : n = 1 ∨ n = 2 ∨ n = 3 := by omega
  rcases hc with rfl | rfl | rfl
  · exact ⟨by decide, by decide, fun k hk => by omega⟩
  · exact ⟨by decide, by decide, fun k hk => by omega⟩
  · exact ⟨by decide, by decide, fun k hk => by omega⟩
set_option maxHeartbeats 4000000 in
theorem impl_square_no (n : Int) (w : World) (hn : n < 1 ∨ 3 < n) :
    Calls Try.prog 6 #[.int .i64 n] w (MadeMi w.heap.size (mvOf [] []) w) := by
  have HF := Lib.hid ((Gm.start (B := w.heap.size) (hi := w.heap.size) (w := w.alloc (.cells #[.slice none 0 0, .slice none 0 0] 25)) (by have := sz1 w (.cells #[.slice none 0 0, .slice none 0 0] 25); omega)).made (m := mvOf [] []) (Nat.le_refl _) rfl (ba1 w (.cells #[.slice none 0 0, .slice none 0 0] 25)))
  have t0 := rblk_cell (heap_alloc_new w (.cells #[.slice none 0 0, .slice none 0 0] 25)) 0
  have t1 := rblk_cell (heap_alloc_new w (.cells #[.slice none 0 0, .slice none 0 0] 25)) 1
  rcases hn with hn | hn
  all_goals
    go_enter Try.func6, Try.ntmps6
    go_wp2
    exact bodyPost_ret (v := .agg #[.slice none 0 0, .slice none 0 0]) (by simp [results, Try.results6, go_sem, t0, t1]) rfl HF.out
set_option maxHeartbeats 16000000 in
theorem impl_square_1 (w : World) :
    Calls Try.prog 6 #[.int .i64 1] w (MadeMi w.heap.size (mvOf (sqP 1 1) (sqT 1 1)) w) := by
  have HP := Lib.hid (fun (j : Nat) W (h : j < 4) => impl_pointAt ((j : Int) % 2) ((j : Int) / 2) W (by omega) (by omega))
  have HQ := Lib.hid (fun (j : Nat) W (h : j < 1) => impl_halfP 1 (2 * (j : Int) + 1) W (by omega) (by omega))
  have HA := Lib.hid (fun a b c d e W => impl_around a b c d e W)
  unfold MadeP at HP HQ
  unfold MadeTs at HA
  go_enter Try.func6, Try.ntmps6
  go_wp2_with fail
  have kb := ba2 w (.cells #[.slice none 0 0, .slice none 0 0] 25) (.cells #[.slice none 0 0, .slice none 0 0] 25)
  obtain ⟨P_r, P_m⟩ := blocks2 w (.cells #[.slice none 0 0, .slice none 0 0] 25) (.cells #[.slice none 0 0, .slice none 0 0] 25)
  have hs0 := rblk_lt P_m
  generalize (w.alloc (.cells #[.slice none 0 0, .slice none 0 0] 25)).alloc (.cells #[.slice none 0 0, .slice none 0 0] 25) = W1 at kb P_r P_m hs0 ⊢
  have G : Gm (w.heap.size + 2) W1.heap.size W1 [] [] (.slice none 0 0) (.slice none 0 0) := Gm.start (Nat.le_refl _)
  go_loopw [23] (fun i w' => ∃ (j : Nat) (M : List PV) (A : Option Addr) (c hi : Nat), j ≤ 4 ∧ i = .int .i64 (j : Int) ∧ dat M = sqG 1 j ∧ Gm (w.heap.size + 2) hi w' M [] (.slice A M.length c) (.slice none 0 0) ∧ w.heap.size + 2 ≤ hi ∧ w'.heap[w.heap.size + 1]? = some (.cells #[.slice A M.length c, .slice none 0 0] 25 (0, 0)) ∧ w'.heap[w.heap.size]? = some (.cells #[.slice none 0 0, .slice none 0 0] 25 (0, 0)) ∧ Below w.heap.size w w') (fun i _ => 4 - (intOf i).toNat)
  case atStart => exact ⟨0, [], none, 0, _, by omega, rfl, rfl, G, hs0, P_m, P_r, kb⟩
  case round =>
    obtain ⟨j, M, A, c, hi, hj, rfl, hd, G, hB, P_m, P_r, kb⟩ := hrel
    have hl : M.length = j := by have := congrArg List.length hd; simpa [dat, sqG] using this
    have HL : Hid (M.length ≤ 16) := Lib.hid (by omega)
    have HD := Lib.hid hd
    clear hd
    by_cases hlt : j < 4
    · have hi0 : (0 : Int) ≤ (j : Int) := by omega
      have hi1 : (j : Int) < 4 := by omega
      have HE := Lib.hid hl
      have e4 : (j : Int).tmod 2 = (j : Int) % 2 := Int.tmod_eq_emod_of_nonneg hi0
      have e7 : IntKind.i64.wrap ((j : Int) / 2) = (j : Int) / 2 := IntWalk.i64_in _ (by omega)
      clear hl
      go_wp2_with fail
      have hd0 : Below wr.heap.size wr wr.drew := (Below.refl _ _).drew
      replace P_m := rblk_below P_m hd0
      replace P_r := rblk_below P_r hd0
      replace G := G.below hd0
      replace kb := bt kb hd0
      clear hd0
      refine wp_region_held_drew (S := fun w' => True) (by kernel_rfl) trivial (fun hHeld => ?_)
      generalize wr.drew = Wd at *
      refine tk (i := 0) (v := ?vg1_1) rfl (by kernel_rfl) (fun _ _ _ h => h) (Or.inl ⟨by rfl, ?hg1_1⟩) hHeld ?_
      case hg1_1 => (intro w hSw; (try dsimp only at hSw); go_simp; (try with_reducible rfl))
      try simp only [ps]
      refine tk (i := 2) (v := ?vg1_2) rfl (by kernel_rfl) (fun _ _ _ h => h) (Or.inl ⟨by rfl, ?hg1_2⟩) hHeld ?_
      case hg1_2 => (intro w hSw; (try dsimp only at hSw); go_simp; (try with_reducible rfl))
      try simp only [ps]
      refine tk (i := 3) (v := ?vg1_3) rfl (by kernel_rfl) (fun _ _ _ h => h) (Or.inl ⟨by rfl, ?hg1_3⟩) hHeld ?_
      case hg1_3 => (intro w hSw; (try dsimp only at hSw); go_simp; (try with_reducible rfl))
      try simp only [ps]
      refine tk (i := 4) (v := ?vg1_4) rfl (by kernel_rfl) (fun _ _ _ h => h) (Or.inl ⟨by rfl, ?hg1_4⟩) hHeld ?_
      case hg1_4 => (intro w hSw; (try dsimp only at hSw); go_simp; (try with_reducible rfl))
      try simp only [ps]
      refine tk (i := 5) (v := ?vg1_5) rfl (by kernel_rfl) (fun _ _ _ h => h) (Or.inl ⟨by rfl, ?hg1_5⟩) hHeld ?_
      case hg1_5 => (intro w hSw; (try dsimp only at hSw); go_simp; (try with_reducible rfl))
      try simp only [ps]
      refine tk (i := 6) (v := ?vg1_6) rfl (by kernel_rfl) (fun _ _ _ h => h) (Or.inl ⟨by rfl, ?hg1_6⟩) hHeld ?_
      case hg1_6 => (intro w hSw; (try dsimp only at hSw); go_simp; (try with_reducible rfl))
      try simp only [ps]
      refine tk (i := 7) (v := ?vg1_7) rfl (by kernel_rfl) (fun _ _ _ h => h) (Or.inl ⟨by rfl, ?hg1_7⟩) hHeld ?_
      case hg1_7 => (intro w hSw; (try dsimp only at hSw); go_simp; (try with_reducible rfl))
      try simp only [ps]
      refine wpAnyH_ready (rs := [1, 8]) (by kernel_rfl) (by simp) ?_
      refine rc1 rfl (fun K hK => ?_) (rc1 rfl (fun K hK => ?_) AllReadyH.nil)
      · skip
        have t0 := rblk_cell P_m 0
        go_simp
        clear t0
        refine hK.out _ _ trivial (fun hH => ?_)
        replace hHeld := hH
        clear hK K hH
        try simp only [ps]
        refine rd1 (i := 8) (by kernel_rfl) rfl (fun K hK => ?_)
        have hz0 := G.hh
        go_simp
        (go_at_call 15; ((with_reducible refine (HP.out j _ hlt).mono ?_); rintro e Wc ⟨a1, a2, rfl, hcs, oq, apq, hb⟩))
        replace P_m := rblk_below P_m hb
        replace P_r := rblk_below P_r hb
        replace G := G.below hb
        replace kb := bt kb hb
        clear hb hcs
        refine hK.out _ _ trivial (fun hH => ?_)
        replace hHeld := hH
        clear hK K hH
        try simp only [ps]
        refine rd1 (i := 9) (by kernel_rfl) rfl (fun K hK => ?_)
        go_simp
        refine hK.out _ _ trivial (fun hH => ?_)
        replace hHeld := hH
        clear hK K hH
        try simp only [ps]
        refine rd1 (i := 10) (by kernel_rfl) rfl (fun K hK => ?_)
        refine wanted_op (by rfl) ?_
        refine grow_pt_op (.tmp 27) (.tmp 35) rfl G ⟨(rfi ((j : Int) % 2)), (rfi ((j : Int) / 2)), a1, a2⟩ rfl rfl (by have := HL.out; omega) (by omega) hz0 oq apq ?_
        intro A2 cc w2 G2 k2 _ _
        have hz2 := k2.size
        replace P_m := (k2.block _ (by omega)).trans P_m
        replace P_r := (k2.block _ (by omega)).trans P_r
        replace kb := kb.trans (k2.mono (by omega))
        clear G oq apq k2 hz0
        refine hK.out _ _ trivial (fun hH => ?_)
        replace hHeld := hH
        clear hK K hH
        try simp only [ps]
        refine tk (i := 11) (v := ?vg1_8) rfl (by kernel_rfl) (fun _ _ _ h => h) (Or.inl ⟨by rfl, ?hg1_8⟩) hHeld ?_
        case hg1_8 => (intro w hSw; (try dsimp only at hSw); go_simp; (try with_reducible rfl))
        try simp only [ps]
        refine rd1 (i := 12) (by kernel_rfl) rfl (fun K hK => ?_)
        have t0 := rblk_cell P_m 0
        have q0 := rblk_free P_m 0
        go_simp
        clear t0 q0
        replace P_r := rblk_other P_r 0 (.slice A2 (M.length + 1) cc) (show (w.heap.size + 1) ≠ w.heap.size by omega)
        replace P_m := rblk_set P_m 0 (.slice A2 (M.length + 1) cc)
        replace G2 := G2.put (g := (w.heap.size + 1)) (i := 0) (by omega) (.slice A2 (M.length + 1) cc)
        replace kb := below_put (o := 0) kb (show w.heap.size ≤ (w.heap.size + 1) by omega) (.slice A2 (M.length + 1) cc)
        have hz3 : (w2.setCell ⟨(w.heap.size + 1), 0, none⟩ (.slice A2 (M.length + 1) cc)).heap.size = w2.heap.size := by simp [World.setCell]
        rw [← hz3] at G2
        clear hz3 hz2
        generalize w2.setCell ⟨(w.heap.size + 1), 0, none⟩ (.slice A2 (M.length + 1) cc) = w3 at *
        refine hK.out _ _ trivial (fun hH => ?_)
        replace hHeld := hH
        clear hK K hH
        try simp only [ps]
        refine wpAnyH_done (by kernel_rfl) ?_ _
        rw [show (#[Value.slice A M.length c, Value.slice none 0 0].setIfInBounds 0 (.slice A2 (M.length + 1) cc)) = #[.slice A2 (M.length + 1) cc, .slice none 0 0] from rfl] at P_m
        have HX := Lib.hid (And.intro G2 (And.intro P_m (And.intro P_r kb)))
        clear G2 P_m P_r kb
        go_wp2
        go_roundw
        case rel => exact ⟨j + 1, M ++ [⟨(rfi ((j : Int) % 2)), (rfi ((j : Int) / 2)), a1, a2⟩], A2, cc, _, by omega, by go_num, by rw [dat_app, HD.out, sqG_succ]; rfl, by rw [List.length_append]; exact HX.out.1, by have := HX.out.1.hh; have := rblk_lt HX.out.2.1; omega, by rw [List.length_append]; exact HX.out.2.1, HX.out.2.2.1, HX.out.2.2.2⟩
        case measure => simp [intOf]; omega
      · skip
        have hz0 := G.hh
        go_simp
        (go_at_call 15; ((with_reducible refine (HP.out j _ hlt).mono ?_); rintro e Wc ⟨a1, a2, rfl, hcs, oq, apq, hb⟩))
        replace P_m := rblk_below P_m hb
        replace P_r := rblk_below P_r hb
        replace G := G.below hb
        replace kb := bt kb hb
        clear hb hcs
        refine hK.out _ _ trivial (fun hH => ?_)
        replace hHeld := hH
        clear hK K hH
        try simp only [ps]
        refine wpAnyH_ready (rs := [1, 9]) (by kernel_rfl) (by simp) ?_
        refine rc1 rfl (fun K hK => ?_) (rc1 rfl (fun K hK => ?_) AllReadyH.nil)
        · skip
          have t0 := rblk_cell P_m 0
          go_simp
          clear t0
          refine hK.out _ _ trivial (fun hH => ?_)
          replace hHeld := hH
          clear hK K hH
          try simp only [ps]
          refine rd1 (i := 9) (by kernel_rfl) rfl (fun K hK => ?_)
          go_simp
          refine hK.out _ _ trivial (fun hH => ?_)
          replace hHeld := hH
          clear hK K hH
          try simp only [ps]
          refine rd1 (i := 10) (by kernel_rfl) rfl (fun K hK => ?_)
          refine wanted_op (by rfl) ?_
          refine grow_pt_op (.tmp 27) (.tmp 35) rfl G ⟨(rfi ((j : Int) % 2)), (rfi ((j : Int) / 2)), a1, a2⟩ rfl rfl (by have := HL.out; omega) (by omega) hz0 oq apq ?_
          intro A2 cc w2 G2 k2 _ _
          have hz2 := k2.size
          replace P_m := (k2.block _ (by omega)).trans P_m
          replace P_r := (k2.block _ (by omega)).trans P_r
          replace kb := kb.trans (k2.mono (by omega))
          clear G oq apq k2 hz0
          refine hK.out _ _ trivial (fun hH => ?_)
          replace hHeld := hH
          clear hK K hH
          try simp only [ps]
          refine tk (i := 11) (v := ?vg1_9) rfl (by kernel_rfl) (fun _ _ _ h => h) (Or.inl ⟨by rfl, ?hg1_9⟩) hHeld ?_
          case hg1_9 => (intro w hSw; (try dsimp only at hSw); go_simp; (try with_reducible rfl))
          try simp only [ps]
          refine rd1 (i := 12) (by kernel_rfl) rfl (fun K hK => ?_)
          have t0 := rblk_cell P_m 0
          have q0 := rblk_free P_m 0
          go_simp
          clear t0 q0
          replace P_r := rblk_other P_r 0 (.slice A2 (M.length + 1) cc) (show (w.heap.size + 1) ≠ w.heap.size by omega)
          replace P_m := rblk_set P_m 0 (.slice A2 (M.length + 1) cc)
          replace G2 := G2.put (g := (w.heap.size + 1)) (i := 0) (by omega) (.slice A2 (M.length + 1) cc)
          replace kb := below_put (o := 0) kb (show w.heap.size ≤ (w.heap.size + 1) by omega) (.slice A2 (M.length + 1) cc)
          have hz3 : (w2.setCell ⟨(w.heap.size + 1), 0, none⟩ (.slice A2 (M.length + 1) cc)).heap.size = w2.heap.size := by simp [World.setCell]
          rw [← hz3] at G2
          clear hz3 hz2
          generalize w2.setCell ⟨(w.heap.size + 1), 0, none⟩ (.slice A2 (M.length + 1) cc) = w3 at *
          refine hK.out _ _ trivial (fun hH => ?_)
          replace hHeld := hH
          clear hK K hH
          try simp only [ps]
          refine wpAnyH_done (by kernel_rfl) ?_ _
          rw [show (#[Value.slice A M.length c, Value.slice none 0 0].setIfInBounds 0 (.slice A2 (M.length + 1) cc)) = #[.slice A2 (M.length + 1) cc, .slice none 0 0] from rfl] at P_m
          have HX := Lib.hid (And.intro G2 (And.intro P_m (And.intro P_r kb)))
          clear G2 P_m P_r kb
          go_wp2
          go_roundw
          case rel => exact ⟨j + 1, M ++ [⟨(rfi ((j : Int) % 2)), (rfi ((j : Int) / 2)), a1, a2⟩], A2, cc, _, by omega, by go_num, by rw [dat_app, HD.out, sqG_succ]; rfl, by rw [List.length_append]; exact HX.out.1, by have := HX.out.1.hh; have := rblk_lt HX.out.2.1; omega, by rw [List.length_append]; exact HX.out.2.1, HX.out.2.2.1, HX.out.2.2.2⟩
          case measure => simp [intOf]; omega
        · skip
          go_simp
          refine hK.out _ _ trivial (fun hH => ?_)
          replace hHeld := hH
          clear hK K hH
          try simp only [ps]
          refine rd1 (i := 1) (by kernel_rfl) rfl (fun K hK => ?_)
          have t0 := rblk_cell (rblk_below P_m (ba1 _ (.cells #[.bool (rfi ((j : Int) % 2)).p, .slice a1.A (rfi ((j : Int) % 2)).l.length a1.c, .slice a1.D (rfi ((j : Int) % 2)).m.length a1.d, .bool (rfi ((j : Int) / 2)).p, .slice a2.A (rfi ((j : Int) / 2)).l.length a2.c, .slice a2.D (rfi ((j : Int) / 2)).m.length a2.d] 39))) 0
          go_simp
          clear t0
          refine hK.out _ _ trivial (fun hH => ?_)
          replace hHeld := hH
          clear hK K hH
          try simp only [ps]
          refine rd1 (i := 10) (by kernel_rfl) rfl (fun K hK => ?_)
          refine wanted_op (by rfl) ?_
          refine grow_pt_op (.tmp 27) (.tmp 35) rfl G ⟨(rfi ((j : Int) % 2)), (rfi ((j : Int) / 2)), a1, a2⟩ rfl rfl (by have := HL.out; omega) (by omega) hz0 oq apq ?_
          intro A2 cc w2 G2 k2 _ _
          have hz2 := k2.size
          replace P_m := (k2.block _ (by omega)).trans P_m
          replace P_r := (k2.block _ (by omega)).trans P_r
          replace kb := kb.trans (k2.mono (by omega))
          clear G oq apq k2 hz0
          refine hK.out _ _ trivial (fun hH => ?_)
          replace hHeld := hH
          clear hK K hH
          try simp only [ps]
          refine tk (i := 11) (v := ?vg1_10) rfl (by kernel_rfl) (fun _ _ _ h => h) (Or.inl ⟨by rfl, ?hg1_10⟩) hHeld ?_
          case hg1_10 => (intro w hSw; (try dsimp only at hSw); go_simp; (try with_reducible rfl))
          try simp only [ps]
          refine rd1 (i := 12) (by kernel_rfl) rfl (fun K hK => ?_)
          have t0 := rblk_cell P_m 0
          have q0 := rblk_free P_m 0
          go_simp
          clear t0 q0
          replace P_r := rblk_other P_r 0 (.slice A2 (M.length + 1) cc) (show (w.heap.size + 1) ≠ w.heap.size by omega)
          replace P_m := rblk_set P_m 0 (.slice A2 (M.length + 1) cc)
          replace G2 := G2.put (g := (w.heap.size + 1)) (i := 0) (by omega) (.slice A2 (M.length + 1) cc)
          replace kb := below_put (o := 0) kb (show w.heap.size ≤ (w.heap.size + 1) by omega) (.slice A2 (M.length + 1) cc)
          have hz3 : (w2.setCell ⟨(w.heap.size + 1), 0, none⟩ (.slice A2 (M.length + 1) cc)).heap.size = w2.heap.size := by simp [World.setCell]
          rw [← hz3] at G2
          clear hz3 hz2
          generalize w2.setCell ⟨(w.heap.size + 1), 0, none⟩ (.slice A2 (M.length + 1) cc) = w3 at *
          refine hK.out _ _ trivial (fun hH => ?_)
          replace hHeld := hH
          clear hK K hH
          try simp only [ps]
          refine wpAnyH_done (by kernel_rfl) ?_ _
          rw [show (#[Value.slice A M.length c, Value.slice none 0 0].setIfInBounds 0 (.slice A2 (M.length + 1) cc)) = #[.slice A2 (M.length + 1) cc, .slice none 0 0] from rfl] at P_m
          have HX := Lib.hid (And.intro G2 (And.intro P_m (And.intro P_r kb)))
          clear G2 P_m P_r kb
          go_wp2
          go_roundw
          case rel => exact ⟨j + 1, M ++ [⟨(rfi ((j : Int) % 2)), (rfi ((j : Int) / 2)), a1, a2⟩], A2, cc, _, by omega, by go_num, by rw [dat_app, HD.out, sqG_succ]; rfl, by rw [List.length_append]; exact HX.out.1, by have := HX.out.1.hh; have := rblk_lt HX.out.2.1; omega, by rw [List.length_append]; exact HX.out.2.1, HX.out.2.2.1, HX.out.2.2.2⟩
          case measure => simp [intOf]; omega
    · rw [show (j : Int) = 4 by omega]
      obtain rfl : j = 4 := by omega
      have d0 : dat M = sqP 1 0 := by rw [HD.out]; simp [sqP]
      clear hl hlt HD HL
      go_wp2
      go_loopw [42] (fun i w' => ∃ (j : Nat) (M : List PV) (T : List TV) (A D : Option Addr) (c d hi : Nat), j ≤ 1 ∧ i = .int .i64 (j : Int) ∧ dat M = sqP 1 j ∧ T = sqT 1 j ∧ Gm (w.heap.size + 2) hi w' M T (.slice A M.length c) (.slice D T.length d) ∧ w.heap.size + 2 ≤ hi ∧ w'.heap[w.heap.size + 1]? = some (.cells #[.slice A M.length c, .slice D T.length d] 25 (0, 0)) ∧ w'.heap[w.heap.size]? = some (.cells #[.slice none 0 0, .slice none 0 0] 25 (0, 0)) ∧ Below w.heap.size w w') (fun i _ => 1 - (intOf i).toNat)
      case atStart => exact ⟨0, M, [], A, none, c, 0, hi, by omega, rfl, d0, rfl, G, hB, P_m, P_r, kb⟩
      case round =>
        clear d0 G hB P_m P_r kb
        obtain ⟨j, M, T, A, D, c, d, hi, hj, rfl, hd, hT, G, hB, P_m, P_r, kb⟩ := hrel
        have hl : M.length = 4 + j := by have := congrArg List.length hd; rw [sqP_len] at this; simpa [dat] using this
        have hlT : T.length = j * 4 := by rw [hT, sqT_len]
        have HL : Hid (M.length ≤ 25 ∧ T.length ≤ 36) := Lib.hid (by omega)
        have HD := Lib.hid (And.intro hd hT)
        by_cases hlt : j < 1
        · have hi0 : (0 : Int) ≤ (j : Int) := by omega
          have hi1 : (j : Int) < 1 := by omega
          have e4 : (j : Int).tmod 1 = 0 := by exact Int.tmod_one _
          have e7 : IntKind.i64.wrap (j : Int) = (j : Int) := IntWalk.i64_in _ (by omega)
          have HE := Lib.hid (And.intro hl hlT)
          clear hl hlT hd hT
          go_wp2_with fail
          have hd0 : Below wr.heap.size wr wr.drew := (Below.refl _ _).drew
          replace P_m := rblk_below P_m hd0
          replace P_r := rblk_below P_r hd0
          replace G := G.below hd0
          replace kb := bt kb hd0
          clear hd0
          refine wp_region_held_drew (S := fun w' => True) (by kernel_rfl) trivial (fun hHeld => ?_)
          generalize wr.drew = Wd at *
          refine tk (i := 0) (v := ?vg2_1) rfl (by kernel_rfl) (fun _ _ _ h => h) (Or.inl ⟨by rfl, ?hg2_1⟩) hHeld ?_
          case hg2_1 => (intro w hSw; (try dsimp only at hSw); go_simp; (try with_reducible rfl))
          try simp only [ps]
          refine tk (i := 1) (v := ?vg2_2) rfl (by kernel_rfl) (fun _ _ _ h => h) (Or.inl ⟨by rfl, ?hg2_2⟩) hHeld ?_
          case hg2_2 => (intro w hSw; (try dsimp only at hSw); go_simp; (try with_reducible rfl))
          try simp only [ps]
          refine tk (i := 2) (v := ?vg2_3) rfl (by kernel_rfl) (fun _ _ _ h => h) (Or.inl ⟨by rfl, ?hg2_3⟩) hHeld ?_
          case hg2_3 => (intro w hSw; (try dsimp only at hSw); go_simp; (try with_reducible rfl))
          try simp only [ps]
          refine tk (i := 3) (v := ?vg2_4) rfl (by kernel_rfl) (fun _ _ _ h => h) (Or.inl ⟨by rfl, ?hg2_4⟩) hHeld ?_
          case hg2_4 => (intro w hSw; (try dsimp only at hSw); go_simp; (try with_reducible rfl))
          try simp only [ps]
          refine tk (i := 4) (v := ?vg2_5) rfl (by kernel_rfl) (fun _ _ _ h => h) (Or.inl ⟨by rfl, ?hg2_5⟩) hHeld ?_
          case hg2_5 => (intro w hSw; (try dsimp only at hSw); go_simp; (try with_reducible rfl))
          try simp only [ps]
          refine tk (i := 5) (v := ?vg2_6) rfl (by kernel_rfl) (fun _ _ _ h => h) (Or.inl ⟨by rfl, ?hg2_6⟩) hHeld ?_
          case hg2_6 => (intro w hSw; (try dsimp only at hSw); go_simp; (try with_reducible rfl))
          try simp only [ps]
          refine tk (i := 6) (v := ?vg2_7) rfl (by kernel_rfl) (fun _ _ _ h => h) (Or.inl ⟨by rfl, ?hg2_7⟩) hHeld ?_
          case hg2_7 => (intro w hSw; (try dsimp only at hSw); go_simp; (try with_reducible rfl))
          try simp only [ps]
          refine tk (i := 7) (v := ?vg2_8) rfl (by kernel_rfl) (fun _ _ _ h => h) (Or.inl ⟨by rfl, ?hg2_8⟩) hHeld ?_
          case hg2_8 => (intro w hSw; (try dsimp only at hSw); go_simp; (try with_reducible rfl))
          try simp only [ps]
          refine wpAnyH_done (by kernel_rfl) ?_ _
          clear hHeld e4 e7
          have P_x := heap_alloc_new Wd (.cells #[.int .i64 ((j : Int) * 2), .int .i64 (((j : Int) * 2) + 1), .int .i64 (((j : Int) * 2) + 2 + 1), .int .i64 (((j : Int) * 2) + 2)] 44)
          have hb := ba1 Wd (.cells #[.int .i64 ((j : Int) * 2), .int .i64 (((j : Int) * 2) + 1), .int .i64 (((j : Int) * 2) + 2 + 1), .int .i64 (((j : Int) * 2) + 2)] 44)
          have hgm := rblk_lt P_m
          have hgh := G.hh
          replace P_m := rblk_below P_m hb
          replace P_r := rblk_below P_r hb
          replace G := G.below hb
          replace kb := bt kb hb
          clear hb
          go_wp2_with fail
          generalize Wd.alloc _ = W2 at *
          generalize Wd.heap.size = gx at *
          go_cut [] (fun wx => ∃ (D2 : Option Addr) (dd hi2 : Nat), Gm (w.heap.size + 2) hi2 wx M (T ++ quadT (M.length : Int) (((j : Int) * 2)) ((((j : Int) * 2) + 1)) ((((j : Int) * 2) + 2 + 1)) ((((j : Int) * 2) + 2))) (.slice A M.length c) (.slice D2 (T ++ quadT (M.length : Int) (((j : Int) * 2)) ((((j : Int) * 2) + 1)) ((((j : Int) * 2) + 2 + 1)) ((((j : Int) * 2) + 2))).length dd) ∧ w.heap.size + 2 ≤ hi2 ∧ wx.heap[w.heap.size + 1]? = some (.cells #[.slice A M.length c, .slice D2 (T ++ quadT (M.length : Int) (((j : Int) * 2)) ((((j : Int) * 2) + 1)) ((((j : Int) * 2) + 2 + 1)) ((((j : Int) * 2) + 2))).length dd] 25 (0, 0)) ∧ wx.heap[w.heap.size]? = some (.cells #[.slice none 0 0, .slice none 0 0] 25 (0, 0)) ∧ Below w.heap.size w wx)
          case first =>
            have hd0 : Below W2.heap.size W2 W2.drew := (Below.refl _ _).drew
            replace P_x := rblk_below P_x hd0
            replace P_m := rblk_below P_m hd0
            replace P_r := rblk_below P_r hd0
            replace G := G.below hd0
            replace kb := bt kb hd0
            clear hd0
            refine wp_region_held_drew (S := fun w' => w'.heap[gx]? = some (.cells #[.int .i64 ((j : Int) * 2), .int .i64 (((j : Int) * 2) + 1), .int .i64 (((j : Int) * 2) + 2 + 1), .int .i64 (((j : Int) * 2) + 2)] 44 (0, 0))) (by kernel_rfl) P_x (fun hHeld => ?_)
            generalize W2.drew = Wd2 at *
            refine tk (i := 0) (v := ?vg3_1) rfl (by kernel_rfl) (fun _ _ _ h => h) (Or.inl ⟨by rfl, ?hg3_1⟩) hHeld ?_
            case hg3_1 => (intro w hSw; (try dsimp only at hSw); go_simp; (try with_reducible rfl))
            try simp only [ps]
            refine tk (i := 2) (v := ?vg3_2) rfl (by kernel_rfl) (fun _ _ _ h => h) (Or.inl ⟨by rfl, ?hg3_2⟩) hHeld ?_
            case hg3_2 => (intro w hSw; (try dsimp only at hSw); go_simp; (try with_reducible rfl))
            try simp only [ps]
            refine tk (i := 5) (v := ?vg3_3) rfl (by kernel_rfl) (fun _ _ _ h => h) (Or.inl ⟨by rfl, ?hg3_3⟩) hHeld ?_
            case hg3_3 => (intro w hSw; (try dsimp only at hSw); have s0 := rblk_cell hSw 0; have s1 := rblk_cell hSw 1; have s2 := rblk_cell hSw 2; have s3 := rblk_cell hSw 3; go_simp; (try with_reducible rfl))
            try simp only [ps]
            refine wpAnyH_ready (rs := [1, 3]) (by kernel_rfl) (by simp) ?_
            refine rc1 rfl (fun K hK => ?_) (rc1 rfl (fun K hK => ?_) AllReadyH.nil)
            · skip
              have t0 := rblk_cell P_m 1
              go_simp
              clear t0
              refine hK.out _ _ P_x (fun hH => ?_)
              replace hHeld := hH
              clear hK K hH
              try simp only [ps]
              refine rd1 (i := 3) (by kernel_rfl) rfl (fun K hK => ?_)
              have t0 := rblk_cell P_m 0
              go_simp
              clear t0
              refine hK.out _ _ P_x (fun hH => ?_)
              replace hHeld := hH
              clear hK K hH
              try simp only [ps]
              refine tk (i := 4) (v := ?vg3_4) rfl (by kernel_rfl) (fun _ _ _ h => h) (Or.inl ⟨by rfl, ?hg3_4⟩) hHeld ?_
              case hg3_4 => (intro w hSw; (try dsimp only at hSw); go_simp; (try with_reducible rfl))
              try simp only [ps]
              refine rd1 (i := 6) (by kernel_rfl) rfl (fun K hK => ?_)
              go_simp
              (go_at_call 16; ((with_reducible refine (HA.out _ _ _ _ _ _).mono ?_); rintro e Wc ⟨gt, ct, rfl, oT, hb⟩))
              replace P_x := rblk_below P_x hb
              replace P_m := rblk_below P_m hb
              replace P_r := rblk_below P_r hb
              replace G := G.below hb
              replace kb := bt kb hb
              clear hb
              refine hK.out _ _ P_x (fun hH => ?_)
              replace hHeld := hH
              clear hK K hH
              try simp only [ps]
              refine rd1 (i := 7) (by kernel_rfl) rfl (fun K hK => ?_)
              refine wanted_op (by rfl) ?_
              refine grow_tri_op (.tmp 68) (.tmp 73) rfl G (quadT (M.length : Int) (((j : Int) * 2)) ((((j : Int) * 2) + 1)) ((((j : Int) * 2) + 2 + 1)) ((((j : Int) * 2) + 2))) ⟨gt, 0, none⟩ ct rfl rfl (owns_cells oT rfl) (by have := HL.out; simp only [quadT, List.length_cons, List.length_nil]; omega) (by omega) ?_
              intro D2 dd w5 G5 k5 t5 _
              replace P_x := t5.blk P_x (.inr hgh)
              have hz5 := k5.size
              replace P_m := (k5.block _ (by omega)).trans P_m
              replace P_r := (k5.block _ (by omega)).trans P_r
              replace kb := kb.trans (k5.mono (by omega))
              clear G oT k5 t5
              refine hK.out _ _ P_x (fun hH => ?_)
              replace hHeld := hH
              clear hK K hH
              try simp only [ps]
              refine tk (i := 8) (v := ?vg3_5) rfl (by kernel_rfl) (fun _ _ _ h => h) (Or.inl ⟨by rfl, ?hg3_5⟩) hHeld ?_
              case hg3_5 => (intro w hSw; (try dsimp only at hSw); go_simp; (try with_reducible rfl))
              try simp only [ps]
              refine rd1 (i := 9) (by kernel_rfl) rfl (fun K hK => ?_)
              have t0 := rblk_cell P_m 1
              have q0 := rblk_free P_m 1
              go_simp
              clear t0 q0
              replace P_r := rblk_other P_r 1 (.slice D2 (T.length + (quadT (M.length : Int) (((j : Int) * 2)) ((((j : Int) * 2) + 1)) ((((j : Int) * 2) + 2 + 1)) ((((j : Int) * 2) + 2))).length) dd) (show (w.heap.size + 1) ≠ w.heap.size by omega)
              replace P_x := rblk_other P_x 1 (.slice D2 (T.length + (quadT (M.length : Int) (((j : Int) * 2)) ((((j : Int) * 2) + 1)) ((((j : Int) * 2) + 2 + 1)) ((((j : Int) * 2) + 2))).length) dd) (show (w.heap.size + 1) ≠ gx by omega)
              replace P_m := rblk_set P_m 1 (.slice D2 (T.length + (quadT (M.length : Int) (((j : Int) * 2)) ((((j : Int) * 2) + 1)) ((((j : Int) * 2) + 2 + 1)) ((((j : Int) * 2) + 2))).length) dd)
              replace G5 := G5.put (g := (w.heap.size + 1)) (i := 1) (by omega) (.slice D2 (T.length + (quadT (M.length : Int) (((j : Int) * 2)) ((((j : Int) * 2) + 1)) ((((j : Int) * 2) + 2 + 1)) ((((j : Int) * 2) + 2))).length) dd)
              replace kb := below_put (o := 1) kb (show w.heap.size ≤ (w.heap.size + 1) by omega) (.slice D2 (T.length + (quadT (M.length : Int) (((j : Int) * 2)) ((((j : Int) * 2) + 1)) ((((j : Int) * 2) + 2 + 1)) ((((j : Int) * 2) + 2))).length) dd)
              have hz3 : (w5.setCell ⟨(w.heap.size + 1), 1, none⟩ (.slice D2 (T.length + (quadT (M.length : Int) (((j : Int) * 2)) ((((j : Int) * 2) + 1)) ((((j : Int) * 2) + 2 + 1)) ((((j : Int) * 2) + 2))).length) dd)).heap.size = w5.heap.size := by simp [World.setCell]
              rw [← hz3] at G5
              clear hz3 hz5
              generalize w5.setCell ⟨(w.heap.size + 1), 1, none⟩ (.slice D2 (T.length + (quadT (M.length : Int) (((j : Int) * 2)) ((((j : Int) * 2) + 1)) ((((j : Int) * 2) + 2 + 1)) ((((j : Int) * 2) + 2))).length) dd) = w6 at *
              refine hK.out _ _ P_x (fun hH => ?_)
              replace hHeld := hH
              clear hK K hH
              try simp only [ps]
              refine wpAnyH_done (by kernel_rfl) ?_ _
              have hz6 := rblk_lt P_x
              have hB6 : w.heap.size + 2 ≤ w6.heap.size := by omega
              rw [show (#[Value.slice A M.length c, Value.slice D T.length d].setIfInBounds 1 (.slice D2 (T.length + (quadT (M.length : Int) (((j : Int) * 2)) ((((j : Int) * 2) + 1)) ((((j : Int) * 2) + 2 + 1)) ((((j : Int) * 2) + 2))).length) dd)) = #[.slice A M.length c, .slice D2 (T.length + (quadT (M.length : Int) (((j : Int) * 2)) ((((j : Int) * 2) + 1)) ((((j : Int) * 2) + 2 + 1)) ((((j : Int) * 2) + 2))).length) dd] from rfl] at P_m
              have HN : (T ++ quadT (M.length : Int) (((j : Int) * 2)) ((((j : Int) * 2) + 1)) ((((j : Int) * 2) + 2 + 1)) ((((j : Int) * 2) + 2))).length = T.length + (quadT (M.length : Int) (((j : Int) * 2)) ((((j : Int) * 2) + 1)) ((((j : Int) * 2) + 2 + 1)) ((((j : Int) * 2) + 2))).length := List.length_append
              rw [← HN] at P_m G5
              have HX := Lib.hid (And.intro G5 (And.intro hB6 (And.intro P_m (And.intro P_r kb))))
              clear G5 P_m P_r kb P_x hHeld HN hz6 hB6 hgm hgh
              go_wp2_with fail
              go_meet
              exact ⟨_, _, _, HX.out⟩
            · skip
              have t0 := rblk_cell P_m 0
              go_simp
              clear t0
              refine hK.out _ _ P_x (fun hH => ?_)
              replace hHeld := hH
              clear hK K hH
              try simp only [ps]
              refine tk (i := 4) (v := ?vg3_6) rfl (by kernel_rfl) (fun _ _ _ h => h) (Or.inl ⟨by rfl, ?hg3_6⟩) hHeld ?_
              case hg3_6 => (intro w hSw; (try dsimp only at hSw); go_simp; (try with_reducible rfl))
              try simp only [ps]
              refine wpAnyH_ready (rs := [1, 6]) (by kernel_rfl) (by simp) ?_
              refine rc1 rfl (fun K hK => ?_) (rc1 rfl (fun K hK => ?_) AllReadyH.nil)
              · skip
                have t0 := rblk_cell P_m 1
                go_simp
                clear t0
                refine hK.out _ _ P_x (fun hH => ?_)
                replace hHeld := hH
                clear hK K hH
                try simp only [ps]
                refine rd1 (i := 6) (by kernel_rfl) rfl (fun K hK => ?_)
                go_simp
                (go_at_call 16; ((with_reducible refine (HA.out _ _ _ _ _ _).mono ?_); rintro e Wc ⟨gt, ct, rfl, oT, hb⟩))
                replace P_x := rblk_below P_x hb
                replace P_m := rblk_below P_m hb
                replace P_r := rblk_below P_r hb
                replace G := G.below hb
                replace kb := bt kb hb
                clear hb
                refine hK.out _ _ P_x (fun hH => ?_)
                replace hHeld := hH
                clear hK K hH
                try simp only [ps]
                refine rd1 (i := 7) (by kernel_rfl) rfl (fun K hK => ?_)
                refine wanted_op (by rfl) ?_
                refine grow_tri_op (.tmp 68) (.tmp 73) rfl G (quadT (M.length : Int) (((j : Int) * 2)) ((((j : Int) * 2) + 1)) ((((j : Int) * 2) + 2 + 1)) ((((j : Int) * 2) + 2))) ⟨gt, 0, none⟩ ct rfl rfl (owns_cells oT rfl) (by have := HL.out; simp only [quadT, List.length_cons, List.length_nil]; omega) (by omega) ?_
                intro D2 dd w5 G5 k5 t5 _
                replace P_x := t5.blk P_x (.inr hgh)
                have hz5 := k5.size
                replace P_m := (k5.block _ (by omega)).trans P_m
                replace P_r := (k5.block _ (by omega)).trans P_r
                replace kb := kb.trans (k5.mono (by omega))
                clear G oT k5 t5
                refine hK.out _ _ P_x (fun hH => ?_)
                replace hHeld := hH
                clear hK K hH
                try simp only [ps]
                refine tk (i := 8) (v := ?vg3_7) rfl (by kernel_rfl) (fun _ _ _ h => h) (Or.inl ⟨by rfl, ?hg3_7⟩) hHeld ?_
                case hg3_7 => (intro w hSw; (try dsimp only at hSw); go_simp; (try with_reducible rfl))
                try simp only [ps]
                refine rd1 (i := 9) (by kernel_rfl) rfl (fun K hK => ?_)
                have t0 := rblk_cell P_m 1
                have q0 := rblk_free P_m 1
                go_simp
                clear t0 q0
                replace P_r := rblk_other P_r 1 (.slice D2 (T.length + (quadT (M.length : Int) (((j : Int) * 2)) ((((j : Int) * 2) + 1)) ((((j : Int) * 2) + 2 + 1)) ((((j : Int) * 2) + 2))).length) dd) (show (w.heap.size + 1) ≠ w.heap.size by omega)
                replace P_x := rblk_other P_x 1 (.slice D2 (T.length + (quadT (M.length : Int) (((j : Int) * 2)) ((((j : Int) * 2) + 1)) ((((j : Int) * 2) + 2 + 1)) ((((j : Int) * 2) + 2))).length) dd) (show (w.heap.size + 1) ≠ gx by omega)
                replace P_m := rblk_set P_m 1 (.slice D2 (T.length + (quadT (M.length : Int) (((j : Int) * 2)) ((((j : Int) * 2) + 1)) ((((j : Int) * 2) + 2 + 1)) ((((j : Int) * 2) + 2))).length) dd)
                replace G5 := G5.put (g := (w.heap.size + 1)) (i := 1) (by omega) (.slice D2 (T.length + (quadT (M.length : Int) (((j : Int) * 2)) ((((j : Int) * 2) + 1)) ((((j : Int) * 2) + 2 + 1)) ((((j : Int) * 2) + 2))).length) dd)
                replace kb := below_put (o := 1) kb (show w.heap.size ≤ (w.heap.size + 1) by omega) (.slice D2 (T.length + (quadT (M.length : Int) (((j : Int) * 2)) ((((j : Int) * 2) + 1)) ((((j : Int) * 2) + 2 + 1)) ((((j : Int) * 2) + 2))).length) dd)
                have hz3 : (w5.setCell ⟨(w.heap.size + 1), 1, none⟩ (.slice D2 (T.length + (quadT (M.length : Int) (((j : Int) * 2)) ((((j : Int) * 2) + 1)) ((((j : Int) * 2) + 2 + 1)) ((((j : Int) * 2) + 2))).length) dd)).heap.size = w5.heap.size := by simp [World.setCell]
                rw [← hz3] at G5
                clear hz3 hz5
                generalize w5.setCell ⟨(w.heap.size + 1), 1, none⟩ (.slice D2 (T.length + (quadT (M.length : Int) (((j : Int) * 2)) ((((j : Int) * 2) + 1)) ((((j : Int) * 2) + 2 + 1)) ((((j : Int) * 2) + 2))).length) dd) = w6 at *
                refine hK.out _ _ P_x (fun hH => ?_)
                replace hHeld := hH
                clear hK K hH
                try simp only [ps]
                refine wpAnyH_done (by kernel_rfl) ?_ _
                have hz6 := rblk_lt P_x
                have hB6 : w.heap.size + 2 ≤ w6.heap.size := by omega
                rw [show (#[Value.slice A M.length c, Value.slice D T.length d].setIfInBounds 1 (.slice D2 (T.length + (quadT (M.length : Int) (((j : Int) * 2)) ((((j : Int) * 2) + 1)) ((((j : Int) * 2) + 2 + 1)) ((((j : Int) * 2) + 2))).length) dd)) = #[.slice A M.length c, .slice D2 (T.length + (quadT (M.length : Int) (((j : Int) * 2)) ((((j : Int) * 2) + 1)) ((((j : Int) * 2) + 2 + 1)) ((((j : Int) * 2) + 2))).length) dd] from rfl] at P_m
                have HN : (T ++ quadT (M.length : Int) (((j : Int) * 2)) ((((j : Int) * 2) + 1)) ((((j : Int) * 2) + 2 + 1)) ((((j : Int) * 2) + 2))).length = T.length + (quadT (M.length : Int) (((j : Int) * 2)) ((((j : Int) * 2) + 1)) ((((j : Int) * 2) + 2 + 1)) ((((j : Int) * 2) + 2))).length := List.length_append
                rw [← HN] at P_m G5
                have HX := Lib.hid (And.intro G5 (And.intro hB6 (And.intro P_m (And.intro P_r kb))))
                clear G5 P_m P_r kb P_x hHeld HN hz6 hB6 hgm hgh
                go_wp2_with fail
                go_meet
                exact ⟨_, _, _, HX.out⟩
              · skip
                go_simp
                (go_at_call 16; ((with_reducible refine (HA.out _ _ _ _ _ _).mono ?_); rintro e Wc ⟨gt, ct, rfl, oT, hb⟩))
                replace P_x := rblk_below P_x hb
                replace P_m := rblk_below P_m hb
                replace P_r := rblk_below P_r hb
                replace G := G.below hb
                replace kb := bt kb hb
                clear hb
                refine hK.out _ _ P_x (fun hH => ?_)
                replace hHeld := hH
                clear hK K hH
                try simp only [ps]
                refine rd1 (i := 1) (by kernel_rfl) rfl (fun K hK => ?_)
                have t0 := rblk_cell P_m 1
                go_simp
                clear t0
                refine hK.out _ _ P_x (fun hH => ?_)
                replace hHeld := hH
                clear hK K hH
                try simp only [ps]
                refine rd1 (i := 7) (by kernel_rfl) rfl (fun K hK => ?_)
                refine wanted_op (by rfl) ?_
                refine grow_tri_op (.tmp 68) (.tmp 73) rfl G (quadT (M.length : Int) (((j : Int) * 2)) ((((j : Int) * 2) + 1)) ((((j : Int) * 2) + 2 + 1)) ((((j : Int) * 2) + 2))) ⟨gt, 0, none⟩ ct rfl rfl (owns_cells oT rfl) (by have := HL.out; simp only [quadT, List.length_cons, List.length_nil]; omega) (by omega) ?_
                intro D2 dd w5 G5 k5 t5 _
                replace P_x := t5.blk P_x (.inr hgh)
                have hz5 := k5.size
                replace P_m := (k5.block _ (by omega)).trans P_m
                replace P_r := (k5.block _ (by omega)).trans P_r
                replace kb := kb.trans (k5.mono (by omega))
                clear G oT k5 t5
                refine hK.out _ _ P_x (fun hH => ?_)
                replace hHeld := hH
                clear hK K hH
                try simp only [ps]
                refine tk (i := 8) (v := ?vg3_8) rfl (by kernel_rfl) (fun _ _ _ h => h) (Or.inl ⟨by rfl, ?hg3_8⟩) hHeld ?_
                case hg3_8 => (intro w hSw; (try dsimp only at hSw); go_simp; (try with_reducible rfl))
                try simp only [ps]
                refine rd1 (i := 9) (by kernel_rfl) rfl (fun K hK => ?_)
                have t0 := rblk_cell P_m 1
                have q0 := rblk_free P_m 1
                go_simp
                clear t0 q0
                replace P_r := rblk_other P_r 1 (.slice D2 (T.length + (quadT (M.length : Int) (((j : Int) * 2)) ((((j : Int) * 2) + 1)) ((((j : Int) * 2) + 2 + 1)) ((((j : Int) * 2) + 2))).length) dd) (show (w.heap.size + 1) ≠ w.heap.size by omega)
                replace P_x := rblk_other P_x 1 (.slice D2 (T.length + (quadT (M.length : Int) (((j : Int) * 2)) ((((j : Int) * 2) + 1)) ((((j : Int) * 2) + 2 + 1)) ((((j : Int) * 2) + 2))).length) dd) (show (w.heap.size + 1) ≠ gx by omega)
                replace P_m := rblk_set P_m 1 (.slice D2 (T.length + (quadT (M.length : Int) (((j : Int) * 2)) ((((j : Int) * 2) + 1)) ((((j : Int) * 2) + 2 + 1)) ((((j : Int) * 2) + 2))).length) dd)
                replace G5 := G5.put (g := (w.heap.size + 1)) (i := 1) (by omega) (.slice D2 (T.length + (quadT (M.length : Int) (((j : Int) * 2)) ((((j : Int) * 2) + 1)) ((((j : Int) * 2) + 2 + 1)) ((((j : Int) * 2) + 2))).length) dd)
                replace kb := below_put (o := 1) kb (show w.heap.size ≤ (w.heap.size + 1) by omega) (.slice D2 (T.length + (quadT (M.length : Int) (((j : Int) * 2)) ((((j : Int) * 2) + 1)) ((((j : Int) * 2) + 2 + 1)) ((((j : Int) * 2) + 2))).length) dd)
                have hz3 : (w5.setCell ⟨(w.heap.size + 1), 1, none⟩ (.slice D2 (T.length + (quadT (M.length : Int) (((j : Int) * 2)) ((((j : Int) * 2) + 1)) ((((j : Int) * 2) + 2 + 1)) ((((j : Int) * 2) + 2))).length) dd)).heap.size = w5.heap.size := by simp [World.setCell]
                rw [← hz3] at G5
                clear hz3 hz5
                generalize w5.setCell ⟨(w.heap.size + 1), 1, none⟩ (.slice D2 (T.length + (quadT (M.length : Int) (((j : Int) * 2)) ((((j : Int) * 2) + 1)) ((((j : Int) * 2) + 2 + 1)) ((((j : Int) * 2) + 2))).length) dd) = w6 at *
                refine hK.out _ _ P_x (fun hH => ?_)
                replace hHeld := hH
                clear hK K hH
                try simp only [ps]
                refine wpAnyH_done (by kernel_rfl) ?_ _
                have hz6 := rblk_lt P_x
                have hB6 : w.heap.size + 2 ≤ w6.heap.size := by omega
                rw [show (#[Value.slice A M.length c, Value.slice D T.length d].setIfInBounds 1 (.slice D2 (T.length + (quadT (M.length : Int) (((j : Int) * 2)) ((((j : Int) * 2) + 1)) ((((j : Int) * 2) + 2 + 1)) ((((j : Int) * 2) + 2))).length) dd)) = #[.slice A M.length c, .slice D2 (T.length + (quadT (M.length : Int) (((j : Int) * 2)) ((((j : Int) * 2) + 1)) ((((j : Int) * 2) + 2 + 1)) ((((j : Int) * 2) + 2))).length) dd] from rfl] at P_m
                have HN : (T ++ quadT (M.length : Int) (((j : Int) * 2)) ((((j : Int) * 2) + 1)) ((((j : Int) * 2) + 2 + 1)) ((((j : Int) * 2) + 2))).length = T.length + (quadT (M.length : Int) (((j : Int) * 2)) ((((j : Int) * 2) + 1)) ((((j : Int) * 2) + 2 + 1)) ((((j : Int) * 2) + 2))).length := List.length_append
                rw [← HN] at P_m G5
                have HX := Lib.hid (And.intro G5 (And.intro hB6 (And.intro P_m (And.intro P_r kb))))
                clear G5 P_m P_r kb P_x hHeld HN hz6 hB6 hgm hgh
                go_wp2_with fail
                go_meet
                exact ⟨_, _, _, HX.out⟩
          case rest =>
            clear G P_m P_r kb P_x hB hgm hgh
            obtain ⟨D2, dd, hi2, G, hB, P_m, P_r, kb⟩ := hcut
            have HT : Hid (T ++ quadT (M.length : Int) (((j : Int) * 2)) ((((j : Int) * 2) + 1)) ((((j : Int) * 2) + 2 + 1)) ((((j : Int) * 2) + 2)) = sqT 1 (j + 1)) := Lib.hid (by rw [HD.out.2, sqT_succ]; congr 1; have := HE.out.1; exact quad_eq (by omega) (by unfold sqLow; omega) (by unfold sqLow; omega) (by unfold sqLow; omega) (by unfold sqLow; omega))
            generalize T ++ quadT (M.length : Int) (((j : Int) * 2)) ((((j : Int) * 2) + 1)) ((((j : Int) * 2) + 2 + 1)) ((((j : Int) * 2) + 2)) = T6 at *
            have ex1 : IntKind.i64.wrap 0 = 0 := by decide
            have ex2 : IntKind.i64.wrap 1 = 1 := by decide
            have ey1 : IntKind.i64.wrap (2 * (j : Int)) = 2 * (j : Int) := IntWalk.i64_in _ (by omega)
            have ey2 : IntKind.i64.wrap (2 * (j : Int) + 1) = 2 * (j : Int) + 1 := IntWalk.i64_in _ (by omega)
            go_wp2_with fail
            have hd0 : Below wc.heap.size wc wc.drew := (Below.refl _ _).drew
            replace P_m := rblk_below P_m hd0
            replace P_r := rblk_below P_r hd0
            replace G := G.below hd0
            replace kb := bt kb hd0
            clear hd0
            refine wp_region_held_drew (S := fun w' => True) (by kernel_rfl) trivial (fun hHeld => ?_)
            generalize wc.drew = Wd at *
            refine tk (i := 0) (v := ?vg4_1) rfl (by kernel_rfl) (fun _ _ _ h => h) (Or.inl ⟨by rfl, ?hg4_1⟩) hHeld ?_
            case hg4_1 => (intro w hSw; (try dsimp only at hSw); go_simp; (try with_reducible rfl))
            try simp only [ps]
            refine tk (i := 2) (v := ?vg4_2) rfl (by kernel_rfl) (fun _ _ _ h => h) (Or.inl ⟨by rfl, ?hg4_2⟩) hHeld ?_
            case hg4_2 => (intro w hSw; (try dsimp only at hSw); go_simp; (try with_reducible rfl))
            try simp only [ps]
            refine tk (i := 3) (v := ?vg4_3) rfl (by kernel_rfl) (fun _ _ _ h => h) (Or.inl ⟨by rfl, ?hg4_3⟩) hHeld ?_
            case hg4_3 => (intro w hSw; (try dsimp only at hSw); go_simp; (try with_reducible rfl))
            try simp only [ps]
            refine tk (i := 4) (v := ?vg4_4) rfl (by kernel_rfl) (fun _ _ _ h => h) (Or.inl ⟨by rfl, ?hg4_4⟩) hHeld ?_
            case hg4_4 => (intro w hSw; (try dsimp only at hSw); go_simp; (try with_reducible rfl))
            try simp only [ps]
            refine tk (i := 5) (v := ?vg4_5) rfl (by kernel_rfl) (fun _ _ _ h => h) (Or.inl ⟨by rfl, ?hg4_5⟩) hHeld ?_
            case hg4_5 => (intro w hSw; (try dsimp only at hSw); go_simp; (try with_reducible rfl))
            try simp only [ps]
            refine tk (i := 6) (v := ?vg4_6) rfl (by kernel_rfl) (fun _ _ _ h => h) (Or.inl ⟨by rfl, ?hg4_6⟩) hHeld ?_
            case hg4_6 => (intro w hSw; (try dsimp only at hSw); go_simp; (try with_reducible rfl))
            try simp only [ps]
            refine tk (i := 7) (v := ?vg4_7) rfl (by kernel_rfl) (fun _ _ _ h => h) (Or.inl ⟨by rfl, ?hg4_7⟩) hHeld ?_
            case hg4_7 => (intro w hSw; (try dsimp only at hSw); go_simp; (try with_reducible rfl))
            try simp only [ps]
            refine wpAnyH_ready (rs := [1, 8]) (by kernel_rfl) (by simp) ?_
            refine rc1 rfl (fun K hK => ?_) (rc1 rfl (fun K hK => ?_) AllReadyH.nil)
            · skip
              have t0 := rblk_cell P_m 0
              go_simp
              clear t0
              refine hK.out _ _ trivial (fun hH => ?_)
              replace hHeld := hH
              clear hK K hH
              try simp only [ps]
              refine rd1 (i := 8) (by kernel_rfl) rfl (fun K hK => ?_)
              have hz0 := G.hh
              go_simp
              (go_at_call 17; ((with_reducible refine (HQ.out j _ hlt).mono ?_); rintro e Wc ⟨a1, a2, rfl, hcs, oq, apq, hb⟩))
              replace P_m := rblk_below P_m hb
              replace P_r := rblk_below P_r hb
              replace G := G.below hb
              replace kb := bt kb hb
              clear hb hcs
              refine hK.out _ _ trivial (fun hH => ?_)
              replace hHeld := hH
              clear hK K hH
              try simp only [ps]
              refine rd1 (i := 9) (by kernel_rfl) rfl (fun K hK => ?_)
              go_simp
              refine hK.out _ _ trivial (fun hH => ?_)
              replace hHeld := hH
              clear hK K hH
              try simp only [ps]
              refine rd1 (i := 10) (by kernel_rfl) rfl (fun K hK => ?_)
              refine wanted_op (by rfl) ?_
              refine grow_pt_op (.tmp 77) (.tmp 85) rfl G ⟨(ofO (ofQ 1 2)), (ofO (ofQ (2 * (j : Int) + 1) 2)), a1, a2⟩ rfl rfl (by have := HL.out; omega) (by omega) hz0 oq apq ?_
              intro A2 cc w2 G2 k2 _ _
              have hz2 := k2.size
              replace P_m := (k2.block _ (by omega)).trans P_m
              replace P_r := (k2.block _ (by omega)).trans P_r
              replace kb := kb.trans (k2.mono (by omega))
              clear G oq apq k2 hz0
              refine hK.out _ _ trivial (fun hH => ?_)
              replace hHeld := hH
              clear hK K hH
              try simp only [ps]
              refine tk (i := 11) (v := ?vg4_8) rfl (by kernel_rfl) (fun _ _ _ h => h) (Or.inl ⟨by rfl, ?hg4_8⟩) hHeld ?_
              case hg4_8 => (intro w hSw; (try dsimp only at hSw); go_simp; (try with_reducible rfl))
              try simp only [ps]
              refine rd1 (i := 12) (by kernel_rfl) rfl (fun K hK => ?_)
              have t0 := rblk_cell P_m 0
              have q0 := rblk_free P_m 0
              go_simp
              clear t0 q0
              replace P_r := rblk_other P_r 0 (.slice A2 (M.length + 1) cc) (show (w.heap.size + 1) ≠ w.heap.size by omega)
              replace P_m := rblk_set P_m 0 (.slice A2 (M.length + 1) cc)
              replace G2 := G2.put (g := (w.heap.size + 1)) (i := 0) (by omega) (.slice A2 (M.length + 1) cc)
              replace kb := below_put (o := 0) kb (show w.heap.size ≤ (w.heap.size + 1) by omega) (.slice A2 (M.length + 1) cc)
              have hz3 : (w2.setCell ⟨(w.heap.size + 1), 0, none⟩ (.slice A2 (M.length + 1) cc)).heap.size = w2.heap.size := by simp [World.setCell]
              rw [← hz3] at G2
              clear hz3 hz2
              generalize w2.setCell ⟨(w.heap.size + 1), 0, none⟩ (.slice A2 (M.length + 1) cc) = w3 at *
              refine hK.out _ _ trivial (fun hH => ?_)
              replace hHeld := hH
              clear hK K hH
              try simp only [ps]
              refine wpAnyH_done (by kernel_rfl) ?_ _
              have HZ := Lib.hid (rblk_lt P_m)
              rw [show (#[Value.slice A M.length c, Value.slice D2 T6.length dd].setIfInBounds 0 (.slice A2 (M.length + 1) cc)) = #[.slice A2 (M.length + 1) cc, .slice D2 T6.length dd] from rfl] at P_m
              have HX := Lib.hid (And.intro G2 (And.intro P_m (And.intro P_r kb)))
              clear G2 P_m P_r kb ex1 ex2 ey1 ey2
              go_wp2
              go_roundw
              case rel => exact ⟨j + 1, M ++ [⟨(ofO (ofQ 1 2)), (ofO (ofQ (2 * (j : Int) + 1) 2)), a1, a2⟩], T6, A2, D2, cc, dd, _, by omega, by go_num, by rw [dat_app, HD.out.1, sqP_succ]; (obtain rfl : j = 0 := (by omega)); rfl, HT.out, by rw [List.length_append]; exact HX.out.1, by have := HX.out.1.hh; have := HZ.out; omega, by rw [List.length_append]; exact HX.out.2.1, HX.out.2.2.1, HX.out.2.2.2⟩
              case measure => simp [intOf]; omega
            · skip
              have hz0 := G.hh
              go_simp
              (go_at_call 17; ((with_reducible refine (HQ.out j _ hlt).mono ?_); rintro e Wc ⟨a1, a2, rfl, hcs, oq, apq, hb⟩))
              replace P_m := rblk_below P_m hb
              replace P_r := rblk_below P_r hb
              replace G := G.below hb
              replace kb := bt kb hb
              clear hb hcs
              refine hK.out _ _ trivial (fun hH => ?_)
              replace hHeld := hH
              clear hK K hH
              try simp only [ps]
              refine wpAnyH_ready (rs := [1, 9]) (by kernel_rfl) (by simp) ?_
              refine rc1 rfl (fun K hK => ?_) (rc1 rfl (fun K hK => ?_) AllReadyH.nil)
              · skip
                have t0 := rblk_cell P_m 0
                go_simp
                clear t0
                refine hK.out _ _ trivial (fun hH => ?_)
                replace hHeld := hH
                clear hK K hH
                try simp only [ps]
                refine rd1 (i := 9) (by kernel_rfl) rfl (fun K hK => ?_)
                go_simp
                refine hK.out _ _ trivial (fun hH => ?_)
                replace hHeld := hH
                clear hK K hH
                try simp only [ps]
                refine rd1 (i := 10) (by kernel_rfl) rfl (fun K hK => ?_)
                refine wanted_op (by rfl) ?_
                refine grow_pt_op (.tmp 77) (.tmp 85) rfl G ⟨(ofO (ofQ 1 2)), (ofO (ofQ (2 * (j : Int) + 1) 2)), a1, a2⟩ rfl rfl (by have := HL.out; omega) (by omega) hz0 oq apq ?_
                intro A2 cc w2 G2 k2 _ _
                have hz2 := k2.size
                replace P_m := (k2.block _ (by omega)).trans P_m
                replace P_r := (k2.block _ (by omega)).trans P_r
                replace kb := kb.trans (k2.mono (by omega))
                clear G oq apq k2 hz0
                refine hK.out _ _ trivial (fun hH => ?_)
                replace hHeld := hH
                clear hK K hH
                try simp only [ps]
                refine tk (i := 11) (v := ?vg4_9) rfl (by kernel_rfl) (fun _ _ _ h => h) (Or.inl ⟨by rfl, ?hg4_9⟩) hHeld ?_
                case hg4_9 => (intro w hSw; (try dsimp only at hSw); go_simp; (try with_reducible rfl))
                try simp only [ps]
                refine rd1 (i := 12) (by kernel_rfl) rfl (fun K hK => ?_)
                have t0 := rblk_cell P_m 0
                have q0 := rblk_free P_m 0
                go_simp
                clear t0 q0
                replace P_r := rblk_other P_r 0 (.slice A2 (M.length + 1) cc) (show (w.heap.size + 1) ≠ w.heap.size by omega)
                replace P_m := rblk_set P_m 0 (.slice A2 (M.length + 1) cc)
                replace G2 := G2.put (g := (w.heap.size + 1)) (i := 0) (by omega) (.slice A2 (M.length + 1) cc)
                replace kb := below_put (o := 0) kb (show w.heap.size ≤ (w.heap.size + 1) by omega) (.slice A2 (M.length + 1) cc)
                have hz3 : (w2.setCell ⟨(w.heap.size + 1), 0, none⟩ (.slice A2 (M.length + 1) cc)).heap.size = w2.heap.size := by simp [World.setCell]
                rw [← hz3] at G2
                clear hz3 hz2
                generalize w2.setCell ⟨(w.heap.size + 1), 0, none⟩ (.slice A2 (M.length + 1) cc) = w3 at *
                refine hK.out _ _ trivial (fun hH => ?_)
                replace hHeld := hH
                clear hK K hH
                try simp only [ps]
                refine wpAnyH_done (by kernel_rfl) ?_ _
                have HZ := Lib.hid (rblk_lt P_m)
                rw [show (#[Value.slice A M.length c, Value.slice D2 T6.length dd].setIfInBounds 0 (.slice A2 (M.length + 1) cc)) = #[.slice A2 (M.length + 1) cc, .slice D2 T6.length dd] from rfl] at P_m
                have HX := Lib.hid (And.intro G2 (And.intro P_m (And.intro P_r kb)))
                clear G2 P_m P_r kb ex1 ex2 ey1 ey2
                go_wp2
                go_roundw
                case rel => exact ⟨j + 1, M ++ [⟨(ofO (ofQ 1 2)), (ofO (ofQ (2 * (j : Int) + 1) 2)), a1, a2⟩], T6, A2, D2, cc, dd, _, by omega, by go_num, by rw [dat_app, HD.out.1, sqP_succ]; (obtain rfl : j = 0 := (by omega)); rfl, HT.out, by rw [List.length_append]; exact HX.out.1, by have := HX.out.1.hh; have := HZ.out; omega, by rw [List.length_append]; exact HX.out.2.1, HX.out.2.2.1, HX.out.2.2.2⟩
                case measure => simp [intOf]; omega
              · skip
                go_simp
                refine hK.out _ _ trivial (fun hH => ?_)
                replace hHeld := hH
                clear hK K hH
                try simp only [ps]
                refine rd1 (i := 1) (by kernel_rfl) rfl (fun K hK => ?_)
                have t0 := rblk_cell (rblk_below P_m (ba1 _ (.cells #[.bool (ofO (ofQ 1 2)).p, .slice a1.A (ofO (ofQ 1 2)).l.length a1.c, .slice a1.D (ofO (ofQ 1 2)).m.length a1.d, .bool (ofO (ofQ (2 * (j : Int) + 1) 2)).p, .slice a2.A (ofO (ofQ (2 * (j : Int) + 1) 2)).l.length a2.c, .slice a2.D (ofO (ofQ (2 * (j : Int) + 1) 2)).m.length a2.d] 39))) 0
                go_simp
                clear t0
                refine hK.out _ _ trivial (fun hH => ?_)
                replace hHeld := hH
                clear hK K hH
                try simp only [ps]
                refine rd1 (i := 10) (by kernel_rfl) rfl (fun K hK => ?_)
                refine wanted_op (by rfl) ?_
                refine grow_pt_op (.tmp 77) (.tmp 85) rfl G ⟨(ofO (ofQ 1 2)), (ofO (ofQ (2 * (j : Int) + 1) 2)), a1, a2⟩ rfl rfl (by have := HL.out; omega) (by omega) hz0 oq apq ?_
                intro A2 cc w2 G2 k2 _ _
                have hz2 := k2.size
                replace P_m := (k2.block _ (by omega)).trans P_m
                replace P_r := (k2.block _ (by omega)).trans P_r
                replace kb := kb.trans (k2.mono (by omega))
                clear G oq apq k2 hz0
                refine hK.out _ _ trivial (fun hH => ?_)
                replace hHeld := hH
                clear hK K hH
                try simp only [ps]
                refine tk (i := 11) (v := ?vg4_10) rfl (by kernel_rfl) (fun _ _ _ h => h) (Or.inl ⟨by rfl, ?hg4_10⟩) hHeld ?_
                case hg4_10 => (intro w hSw; (try dsimp only at hSw); go_simp; (try with_reducible rfl))
                try simp only [ps]
                refine rd1 (i := 12) (by kernel_rfl) rfl (fun K hK => ?_)
                have t0 := rblk_cell P_m 0
                have q0 := rblk_free P_m 0
                go_simp
                clear t0 q0
                replace P_r := rblk_other P_r 0 (.slice A2 (M.length + 1) cc) (show (w.heap.size + 1) ≠ w.heap.size by omega)
                replace P_m := rblk_set P_m 0 (.slice A2 (M.length + 1) cc)
                replace G2 := G2.put (g := (w.heap.size + 1)) (i := 0) (by omega) (.slice A2 (M.length + 1) cc)
                replace kb := below_put (o := 0) kb (show w.heap.size ≤ (w.heap.size + 1) by omega) (.slice A2 (M.length + 1) cc)
                have hz3 : (w2.setCell ⟨(w.heap.size + 1), 0, none⟩ (.slice A2 (M.length + 1) cc)).heap.size = w2.heap.size := by simp [World.setCell]
                rw [← hz3] at G2
                clear hz3 hz2
                generalize w2.setCell ⟨(w.heap.size + 1), 0, none⟩ (.slice A2 (M.length + 1) cc) = w3 at *
                refine hK.out _ _ trivial (fun hH => ?_)
                replace hHeld := hH
                clear hK K hH
                try simp only [ps]
                refine wpAnyH_done (by kernel_rfl) ?_ _
                have HZ := Lib.hid (rblk_lt P_m)
                rw [show (#[Value.slice A M.length c, Value.slice D2 T6.length dd].setIfInBounds 0 (.slice A2 (M.length + 1) cc)) = #[.slice A2 (M.length + 1) cc, .slice D2 T6.length dd] from rfl] at P_m
                have HX := Lib.hid (And.intro G2 (And.intro P_m (And.intro P_r kb)))
                clear G2 P_m P_r kb ex1 ex2 ey1 ey2
                go_wp2
                go_roundw
                case rel => exact ⟨j + 1, M ++ [⟨(ofO (ofQ 1 2)), (ofO (ofQ (2 * (j : Int) + 1) 2)), a1, a2⟩], T6, A2, D2, cc, dd, _, by omega, by go_num, by rw [dat_app, HD.out.1, sqP_succ]; (obtain rfl : j = 0 := (by omega)); rfl, HT.out, by rw [List.length_append]; exact HX.out.1, by have := HX.out.1.hh; have := HZ.out; omega, by rw [List.length_append]; exact HX.out.2.1, HX.out.2.2.1, HX.out.2.2.2⟩
                case measure => simp [intOf]; omega
        · rw [show (j : Int) = 1 by omega]
          obtain rfl : j = 1 := by omega
          have r0 := rblk_cell P_r 0
          have r1 := rblk_cell P_r 1
          have q0 := rblk_free P_r 0
          have q1 := rblk_free P_r 1
          have HX := Lib.hid (((G.put (g := w.heap.size) (i := 0) (by omega) (.slice A M.length c)).put (g := w.heap.size) (i := 1) (by omega) (.slice D T.length d)).made (B0 := w.heap.size) (m := mvOf (sqP 1 1) (sqT 1 1)) (by omega) (by rw [datM_of, hd, hT]) (w := w) (below_put (o := 1) (below_put (o := 0) kb (Nat.le_refl _) (.slice A M.length c)) (Nat.le_refl _) (.slice D T.length d)))
          have PZ := rblk_set (rblk_set P_r 0 (.slice A M.length c)) 1 (.slice D T.length d)
          have z0 := rblk_cell PZ 0
          have z1 := rblk_cell PZ 1
          have t0 := rblk_cell P_m 0
          have t1 := rblk_cell P_m 1
          clear hl hlT hd hT
          go_wp2
          exact bodyPost_ret (v := .agg #[.slice A M.length c, .slice D T.length d]) (by simp [results, Try.results6, go_sem, z0, z1]) rfl HX.out
set_option maxHeartbeats 16000000 in
theorem impl_square_2 (w : World) :
    Calls Try.prog 6 #[.int .i64 2] w (MadeMi w.heap.size (mvOf (sqP 2 4) (sqT 2 4)) w) := by
  have HP := Lib.hid (fun (j : Nat) W (h : j < 9) => impl_pointAt ((j : Int) % 3) ((j : Int) / 3) W (by omega) (by omega))
  have HQ := Lib.hid (fun (j : Nat) W (h : j < 4) => impl_halfP (2 * ((j : Int) % 2) + 1) (2 * ((j : Int) / 2) + 1) W (by omega) (by omega))
  have HA := Lib.hid (fun a b c d e W => impl_around a b c d e W)
  unfold MadeP at HP HQ
  unfold MadeTs at HA
  go_enter Try.func6, Try.ntmps6
  go_wp2_with fail
  have kb := ba2 w (.cells #[.slice none 0 0, .slice none 0 0] 25) (.cells #[.slice none 0 0, .slice none 0 0] 25)
  obtain ⟨P_r, P_m⟩ := blocks2 w (.cells #[.slice none 0 0, .slice none 0 0] 25) (.cells #[.slice none 0 0, .slice none 0 0] 25)
  have hs0 := rblk_lt P_m
  generalize (w.alloc (.cells #[.slice none 0 0, .slice none 0 0] 25)).alloc (.cells #[.slice none 0 0, .slice none 0 0] 25) = W1 at kb P_r P_m hs0 ⊢
  have G : Gm (w.heap.size + 2) W1.heap.size W1 [] [] (.slice none 0 0) (.slice none 0 0) := Gm.start (Nat.le_refl _)
  go_loopw [23] (fun i w' => ∃ (j : Nat) (M : List PV) (A : Option Addr) (c hi : Nat), j ≤ 9 ∧ i = .int .i64 (j : Int) ∧ dat M = sqG 2 j ∧ Gm (w.heap.size + 2) hi w' M [] (.slice A M.length c) (.slice none 0 0) ∧ w.heap.size + 2 ≤ hi ∧ w'.heap[w.heap.size + 1]? = some (.cells #[.slice A M.length c, .slice none 0 0] 25 (0, 0)) ∧ w'.heap[w.heap.size]? = some (.cells #[.slice none 0 0, .slice none 0 0] 25 (0, 0)) ∧ Below w.heap.size w w') (fun i _ => 9 - (intOf i).toNat)
  case atStart => exact ⟨0, [], none, 0, _, by omega, rfl, rfl, G, hs0, P_m, P_r, kb⟩
  case round =>
    obtain ⟨j, M, A, c, hi, hj, rfl, hd, G, hB, P_m, P_r, kb⟩ := hrel
    have hl : M.length = j := by have := congrArg List.length hd; simpa [dat, sqG] using this
    have HL : Hid (M.length ≤ 16) := Lib.hid (by omega)
    have HD := Lib.hid hd
    clear hd
    by_cases hlt : j < 9
    · have hi0 : (0 : Int) ≤ (j : Int) := by omega
      have hi1 : (j : Int) < 9 := by omega
      have HE := Lib.hid hl
      have e4 : (j : Int).tmod 3 = (j : Int) % 3 := Int.tmod_eq_emod_of_nonneg hi0
      have e7 : IntKind.i64.wrap ((j : Int) / 3) = (j : Int) / 3 := IntWalk.i64_in _ (by omega)
      clear hl
      go_wp2_with fail
      have hd0 : Below wr.heap.size wr wr.drew := (Below.refl _ _).drew
      replace P_m := rblk_below P_m hd0
      replace P_r := rblk_below P_r hd0
      replace G := G.below hd0
      replace kb := bt kb hd0
      clear hd0
      refine wp_region_held_drew (S := fun w' => True) (by kernel_rfl) trivial (fun hHeld => ?_)
      generalize wr.drew = Wd at *
      refine tk (i := 0) (v := ?vg5_1) rfl (by kernel_rfl) (fun _ _ _ h => h) (Or.inl ⟨by rfl, ?hg5_1⟩) hHeld ?_
      case hg5_1 => (intro w hSw; (try dsimp only at hSw); go_simp; (try with_reducible rfl))
      try simp only [ps]
      refine tk (i := 2) (v := ?vg5_2) rfl (by kernel_rfl) (fun _ _ _ h => h) (Or.inl ⟨by rfl, ?hg5_2⟩) hHeld ?_
      case hg5_2 => (intro w hSw; (try dsimp only at hSw); go_simp; (try with_reducible rfl))
      try simp only [ps]
      refine tk (i := 3) (v := ?vg5_3) rfl (by kernel_rfl) (fun _ _ _ h => h) (Or.inl ⟨by rfl, ?hg5_3⟩) hHeld ?_
      case hg5_3 => (intro w hSw; (try dsimp only at hSw); go_simp; (try with_reducible rfl))
      try simp only [ps]
      refine tk (i := 4) (v := ?vg5_4) rfl (by kernel_rfl) (fun _ _ _ h => h) (Or.inl ⟨by rfl, ?hg5_4⟩) hHeld ?_
      case hg5_4 => (intro w hSw; (try dsimp only at hSw); go_simp; (try with_reducible rfl))
      try simp only [ps]
      refine tk (i := 5) (v := ?vg5_5) rfl (by kernel_rfl) (fun _ _ _ h => h) (Or.inl ⟨by rfl, ?hg5_5⟩) hHeld ?_
      case hg5_5 => (intro w hSw; (try dsimp only at hSw); go_simp; (try with_reducible rfl))
      try simp only [ps]
      refine tk (i := 6) (v := ?vg5_6) rfl (by kernel_rfl) (fun _ _ _ h => h) (Or.inl ⟨by rfl, ?hg5_6⟩) hHeld ?_
      case hg5_6 => (intro w hSw; (try dsimp only at hSw); go_simp; (try with_reducible rfl))
      try simp only [ps]
      refine tk (i := 7) (v := ?vg5_7) rfl (by kernel_rfl) (fun _ _ _ h => h) (Or.inl ⟨by rfl, ?hg5_7⟩) hHeld ?_
      case hg5_7 => (intro w hSw; (try dsimp only at hSw); go_simp; (try with_reducible rfl))
      try simp only [ps]
      refine wpAnyH_ready (rs := [1, 8]) (by kernel_rfl) (by simp) ?_
      refine rc1 rfl (fun K hK => ?_) (rc1 rfl (fun K hK => ?_) AllReadyH.nil)
      · skip
        have t0 := rblk_cell P_m 0
        go_simp
        clear t0
        refine hK.out _ _ trivial (fun hH => ?_)
        replace hHeld := hH
        clear hK K hH
        try simp only [ps]
        refine rd1 (i := 8) (by kernel_rfl) rfl (fun K hK => ?_)
        have hz0 := G.hh
        go_simp
        (go_at_call 15; ((with_reducible refine (HP.out j _ hlt).mono ?_); rintro e Wc ⟨a1, a2, rfl, hcs, oq, apq, hb⟩))
        replace P_m := rblk_below P_m hb
        replace P_r := rblk_below P_r hb
        replace G := G.below hb
        replace kb := bt kb hb
        clear hb hcs
        refine hK.out _ _ trivial (fun hH => ?_)
        replace hHeld := hH
        clear hK K hH
        try simp only [ps]
        refine rd1 (i := 9) (by kernel_rfl) rfl (fun K hK => ?_)
        go_simp
        refine hK.out _ _ trivial (fun hH => ?_)
        replace hHeld := hH
        clear hK K hH
        try simp only [ps]
        refine rd1 (i := 10) (by kernel_rfl) rfl (fun K hK => ?_)
        refine wanted_op (by rfl) ?_
        refine grow_pt_op (.tmp 27) (.tmp 35) rfl G ⟨(rfi ((j : Int) % 3)), (rfi ((j : Int) / 3)), a1, a2⟩ rfl rfl (by have := HL.out; omega) (by omega) hz0 oq apq ?_
        intro A2 cc w2 G2 k2 _ _
        have hz2 := k2.size
        replace P_m := (k2.block _ (by omega)).trans P_m
        replace P_r := (k2.block _ (by omega)).trans P_r
        replace kb := kb.trans (k2.mono (by omega))
        clear G oq apq k2 hz0
        refine hK.out _ _ trivial (fun hH => ?_)
        replace hHeld := hH
        clear hK K hH
        try simp only [ps]
        refine tk (i := 11) (v := ?vg5_8) rfl (by kernel_rfl) (fun _ _ _ h => h) (Or.inl ⟨by rfl, ?hg5_8⟩) hHeld ?_
        case hg5_8 => (intro w hSw; (try dsimp only at hSw); go_simp; (try with_reducible rfl))
        try simp only [ps]
        refine rd1 (i := 12) (by kernel_rfl) rfl (fun K hK => ?_)
        have t0 := rblk_cell P_m 0
        have q0 := rblk_free P_m 0
        go_simp
        clear t0 q0
        replace P_r := rblk_other P_r 0 (.slice A2 (M.length + 1) cc) (show (w.heap.size + 1) ≠ w.heap.size by omega)
        replace P_m := rblk_set P_m 0 (.slice A2 (M.length + 1) cc)
        replace G2 := G2.put (g := (w.heap.size + 1)) (i := 0) (by omega) (.slice A2 (M.length + 1) cc)
        replace kb := below_put (o := 0) kb (show w.heap.size ≤ (w.heap.size + 1) by omega) (.slice A2 (M.length + 1) cc)
        have hz3 : (w2.setCell ⟨(w.heap.size + 1), 0, none⟩ (.slice A2 (M.length + 1) cc)).heap.size = w2.heap.size := by simp [World.setCell]
        rw [← hz3] at G2
        clear hz3 hz2
        generalize w2.setCell ⟨(w.heap.size + 1), 0, none⟩ (.slice A2 (M.length + 1) cc) = w3 at *
        refine hK.out _ _ trivial (fun hH => ?_)
        replace hHeld := hH
        clear hK K hH
        try simp only [ps]
        refine wpAnyH_done (by kernel_rfl) ?_ _
        rw [show (#[Value.slice A M.length c, Value.slice none 0 0].setIfInBounds 0 (.slice A2 (M.length + 1) cc)) = #[.slice A2 (M.length + 1) cc, .slice none 0 0] from rfl] at P_m
        have HX := Lib.hid (And.intro G2 (And.intro P_m (And.intro P_r kb)))
        clear G2 P_m P_r kb
        go_wp2
        go_roundw
        case rel => exact ⟨j + 1, M ++ [⟨(rfi ((j : Int) % 3)), (rfi ((j : Int) / 3)), a1, a2⟩], A2, cc, _, by omega, by go_num, by rw [dat_app, HD.out, sqG_succ]; rfl, by rw [List.length_append]; exact HX.out.1, by have := HX.out.1.hh; have := rblk_lt HX.out.2.1; omega, by rw [List.length_append]; exact HX.out.2.1, HX.out.2.2.1, HX.out.2.2.2⟩
        case measure => simp [intOf]; omega
      · skip
        have hz0 := G.hh
        go_simp
        (go_at_call 15; ((with_reducible refine (HP.out j _ hlt).mono ?_); rintro e Wc ⟨a1, a2, rfl, hcs, oq, apq, hb⟩))
        replace P_m := rblk_below P_m hb
        replace P_r := rblk_below P_r hb
        replace G := G.below hb
        replace kb := bt kb hb
        clear hb hcs
        refine hK.out _ _ trivial (fun hH => ?_)
        replace hHeld := hH
        clear hK K hH
        try simp only [ps]
        refine wpAnyH_ready (rs := [1, 9]) (by kernel_rfl) (by simp) ?_
        refine rc1 rfl (fun K hK => ?_) (rc1 rfl (fun K hK => ?_) AllReadyH.nil)
        · skip
          have t0 := rblk_cell P_m 0
          go_simp
          clear t0
          refine hK.out _ _ trivial (fun hH => ?_)
          replace hHeld := hH
          clear hK K hH
          try simp only [ps]
          refine rd1 (i := 9) (by kernel_rfl) rfl (fun K hK => ?_)
          go_simp
          refine hK.out _ _ trivial (fun hH => ?_)
          replace hHeld := hH
          clear hK K hH
          try simp only [ps]
          refine rd1 (i := 10) (by kernel_rfl) rfl (fun K hK => ?_)
          refine wanted_op (by rfl) ?_
          refine grow_pt_op (.tmp 27) (.tmp 35) rfl G ⟨(rfi ((j : Int) % 3)), (rfi ((j : Int) / 3)), a1, a2⟩ rfl rfl (by have := HL.out; omega) (by omega) hz0 oq apq ?_
          intro A2 cc w2 G2 k2 _ _
          have hz2 := k2.size
          replace P_m := (k2.block _ (by omega)).trans P_m
          replace P_r := (k2.block _ (by omega)).trans P_r
          replace kb := kb.trans (k2.mono (by omega))
          clear G oq apq k2 hz0
          refine hK.out _ _ trivial (fun hH => ?_)
          replace hHeld := hH
          clear hK K hH
          try simp only [ps]
          refine tk (i := 11) (v := ?vg5_9) rfl (by kernel_rfl) (fun _ _ _ h => h) (Or.inl ⟨by rfl, ?hg5_9⟩) hHeld ?_
          case hg5_9 => (intro w hSw; (try dsimp only at hSw); go_simp; (try with_reducible rfl))
          try simp only [ps]
          refine rd1 (i := 12) (by kernel_rfl) rfl (fun K hK => ?_)
          have t0 := rblk_cell P_m 0
          have q0 := rblk_free P_m 0
          go_simp
          clear t0 q0
          replace P_r := rblk_other P_r 0 (.slice A2 (M.length + 1) cc) (show (w.heap.size + 1) ≠ w.heap.size by omega)
          replace P_m := rblk_set P_m 0 (.slice A2 (M.length + 1) cc)
          replace G2 := G2.put (g := (w.heap.size + 1)) (i := 0) (by omega) (.slice A2 (M.length + 1) cc)
          replace kb := below_put (o := 0) kb (show w.heap.size ≤ (w.heap.size + 1) by omega) (.slice A2 (M.length + 1) cc)
          have hz3 : (w2.setCell ⟨(w.heap.size + 1), 0, none⟩ (.slice A2 (M.length + 1) cc)).heap.size = w2.heap.size := by simp [World.setCell]
          rw [← hz3] at G2
          clear hz3 hz2
          generalize w2.setCell ⟨(w.heap.size + 1), 0, none⟩ (.slice A2 (M.length + 1) cc) = w3 at *
          refine hK.out _ _ trivial (fun hH => ?_)
          replace hHeld := hH
          clear hK K hH
          try simp only [ps]
          refine wpAnyH_done (by kernel_rfl) ?_ _
          rw [show (#[Value.slice A M.length c, Value.slice none 0 0].setIfInBounds 0 (.slice A2 (M.length + 1) cc)) = #[.slice A2 (M.length + 1) cc, .slice none 0 0] from rfl] at P_m
          have HX := Lib.hid (And.intro G2 (And.intro P_m (And.intro P_r kb)))
          clear G2 P_m P_r kb
          go_wp2
          go_roundw
          case rel => exact ⟨j + 1, M ++ [⟨(rfi ((j : Int) % 3)), (rfi ((j : Int) / 3)), a1, a2⟩], A2, cc, _, by omega, by go_num, by rw [dat_app, HD.out, sqG_succ]; rfl, by rw [List.length_append]; exact HX.out.1, by have := HX.out.1.hh; have := rblk_lt HX.out.2.1; omega, by rw [List.length_append]; exact HX.out.2.1, HX.out.2.2.1, HX.out.2.2.2⟩
          case measure => simp [intOf]; omega
        · skip
          go_simp
          refine hK.out _ _ trivial (fun hH => ?_)
          replace hHeld := hH
          clear hK K hH
          try simp only [ps]
          refine rd1 (i := 1) (by kernel_rfl) rfl (fun K hK => ?_)
          have t0 := rblk_cell (rblk_below P_m (ba1 _ (.cells #[.bool (rfi ((j : Int) % 3)).p, .slice a1.A (rfi ((j : Int) % 3)).l.length a1.c, .slice a1.D (rfi ((j : Int) % 3)).m.length a1.d, .bool (rfi ((j : Int) / 3)).p, .slice a2.A (rfi ((j : Int) / 3)).l.length a2.c, .slice a2.D (rfi ((j : Int) / 3)).m.length a2.d] 39))) 0
          go_simp
          clear t0
          refine hK.out _ _ trivial (fun hH => ?_)
          replace hHeld := hH
          clear hK K hH
          try simp only [ps]
          refine rd1 (i := 10) (by kernel_rfl) rfl (fun K hK => ?_)
          refine wanted_op (by rfl) ?_
          refine grow_pt_op (.tmp 27) (.tmp 35) rfl G ⟨(rfi ((j : Int) % 3)), (rfi ((j : Int) / 3)), a1, a2⟩ rfl rfl (by have := HL.out; omega) (by omega) hz0 oq apq ?_
          intro A2 cc w2 G2 k2 _ _
          have hz2 := k2.size
          replace P_m := (k2.block _ (by omega)).trans P_m
          replace P_r := (k2.block _ (by omega)).trans P_r
          replace kb := kb.trans (k2.mono (by omega))
          clear G oq apq k2 hz0
          refine hK.out _ _ trivial (fun hH => ?_)
          replace hHeld := hH
          clear hK K hH
          try simp only [ps]
          refine tk (i := 11) (v := ?vg5_10) rfl (by kernel_rfl) (fun _ _ _ h => h) (Or.inl ⟨by rfl, ?hg5_10⟩) hHeld ?_
          case hg5_10 => (intro w hSw; (try dsimp only at hSw); go_simp; (try with_reducible rfl))
          try simp only [ps]
          refine rd1 (i := 12) (by kernel_rfl) rfl (fun K hK => ?_)
          have t0 := rblk_cell P_m 0
          have q0 := rblk_free P_m 0
          go_simp
          clear t0 q0
          replace P_r := rblk_other P_r 0 (.slice A2 (M.length + 1) cc) (show (w.heap.size + 1) ≠ w.heap.size by omega)
          replace P_m := rblk_set P_m 0 (.slice A2 (M.length + 1) cc)
          replace G2 := G2.put (g := (w.heap.size + 1)) (i := 0) (by omega) (.slice A2 (M.length + 1) cc)
          replace kb := below_put (o := 0) kb (show w.heap.size ≤ (w.heap.size + 1) by omega) (.slice A2 (M.length + 1) cc)
          have hz3 : (w2.setCell ⟨(w.heap.size + 1), 0, none⟩ (.slice A2 (M.length + 1) cc)).heap.size = w2.heap.size := by simp [World.setCell]
          rw [← hz3] at G2
          clear hz3 hz2
          generalize w2.setCell ⟨(w.heap.size + 1), 0, none⟩ (.slice A2 (M.length + 1) cc) = w3 at *
          refine hK.out _ _ trivial (fun hH => ?_)
          replace hHeld := hH
          clear hK K hH
          try simp only [ps]
          refine wpAnyH_done (by kernel_rfl) ?_ _
          rw [show (#[Value.slice A M.length c, Value.slice none 0 0].setIfInBounds 0 (.slice A2 (M.length + 1) cc)) = #[.slice A2 (M.length + 1) cc, .slice none 0 0] from rfl] at P_m
          have HX := Lib.hid (And.intro G2 (And.intro P_m (And.intro P_r kb)))
          clear G2 P_m P_r kb
          go_wp2
          go_roundw
          case rel => exact ⟨j + 1, M ++ [⟨(rfi ((j : Int) % 3)), (rfi ((j : Int) / 3)), a1, a2⟩], A2, cc, _, by omega, by go_num, by rw [dat_app, HD.out, sqG_succ]; rfl, by rw [List.length_append]; exact HX.out.1, by have := HX.out.1.hh; have := rblk_lt HX.out.2.1; omega, by rw [List.length_append]; exact HX.out.2.1, HX.out.2.2.1, HX.out.2.2.2⟩
          case measure => simp [intOf]; omega
    · rw [show (j : Int) = 9 by omega]
      obtain rfl : j = 9 := by omega
      have d0 : dat M = sqP 2 0 := by rw [HD.out]; simp [sqP]
      clear hl hlt HD HL
      go_wp2
      go_loopw [42] (fun i w' => ∃ (j : Nat) (M : List PV) (T : List TV) (A D : Option Addr) (c d hi : Nat), j ≤ 4 ∧ i = .int .i64 (j : Int) ∧ dat M = sqP 2 j ∧ T = sqT 2 j ∧ Gm (w.heap.size + 2) hi w' M T (.slice A M.length c) (.slice D T.length d) ∧ w.heap.size + 2 ≤ hi ∧ w'.heap[w.heap.size + 1]? = some (.cells #[.slice A M.length c, .slice D T.length d] 25 (0, 0)) ∧ w'.heap[w.heap.size]? = some (.cells #[.slice none 0 0, .slice none 0 0] 25 (0, 0)) ∧ Below w.heap.size w w') (fun i _ => 4 - (intOf i).toNat)
      case atStart => exact ⟨0, M, [], A, none, c, 0, hi, by omega, rfl, d0, rfl, G, hB, P_m, P_r, kb⟩
      case round =>
        clear d0 G hB P_m P_r kb
        obtain ⟨j, M, T, A, D, c, d, hi, hj, rfl, hd, hT, G, hB, P_m, P_r, kb⟩ := hrel
        have hl : M.length = 9 + j := by have := congrArg List.length hd; rw [sqP_len] at this; simpa [dat] using this
        have hlT : T.length = j * 4 := by rw [hT, sqT_len]
        have HL : Hid (M.length ≤ 25 ∧ T.length ≤ 36) := Lib.hid (by omega)
        have HD := Lib.hid (And.intro hd hT)
        by_cases hlt : j < 4
        · have hi0 : (0 : Int) ≤ (j : Int) := by omega
          have hi1 : (j : Int) < 4 := by omega
          have e4 : (j : Int).tmod 2 = ((j : Int) % 2) := by exact Int.tmod_eq_emod_of_nonneg hi0
          have e7 : IntKind.i64.wrap ((j : Int) / 2) = ((j : Int) / 2) := IntWalk.i64_in _ (by omega)
          have HE := Lib.hid (And.intro hl hlT)
          clear hl hlT hd hT
          go_wp2_with fail
          have hd0 : Below wr.heap.size wr wr.drew := (Below.refl _ _).drew
          replace P_m := rblk_below P_m hd0
          replace P_r := rblk_below P_r hd0
          replace G := G.below hd0
          replace kb := bt kb hd0
          clear hd0
          refine wp_region_held_drew (S := fun w' => True) (by kernel_rfl) trivial (fun hHeld => ?_)
          generalize wr.drew = Wd at *
          refine tk (i := 0) (v := ?vg6_1) rfl (by kernel_rfl) (fun _ _ _ h => h) (Or.inl ⟨by rfl, ?hg6_1⟩) hHeld ?_
          case hg6_1 => (intro w hSw; (try dsimp only at hSw); go_simp; (try with_reducible rfl))
          try simp only [ps]
          refine tk (i := 1) (v := ?vg6_2) rfl (by kernel_rfl) (fun _ _ _ h => h) (Or.inl ⟨by rfl, ?hg6_2⟩) hHeld ?_
          case hg6_2 => (intro w hSw; (try dsimp only at hSw); go_simp; (try with_reducible rfl))
          try simp only [ps]
          refine tk (i := 2) (v := ?vg6_3) rfl (by kernel_rfl) (fun _ _ _ h => h) (Or.inl ⟨by rfl, ?hg6_3⟩) hHeld ?_
          case hg6_3 => (intro w hSw; (try dsimp only at hSw); go_simp; (try with_reducible rfl))
          try simp only [ps]
          refine tk (i := 3) (v := ?vg6_4) rfl (by kernel_rfl) (fun _ _ _ h => h) (Or.inl ⟨by rfl, ?hg6_4⟩) hHeld ?_
          case hg6_4 => (intro w hSw; (try dsimp only at hSw); go_simp; (try with_reducible rfl))
          try simp only [ps]
          refine tk (i := 4) (v := ?vg6_5) rfl (by kernel_rfl) (fun _ _ _ h => h) (Or.inl ⟨by rfl, ?hg6_5⟩) hHeld ?_
          case hg6_5 => (intro w hSw; (try dsimp only at hSw); go_simp; (try with_reducible rfl))
          try simp only [ps]
          refine tk (i := 5) (v := ?vg6_6) rfl (by kernel_rfl) (fun _ _ _ h => h) (Or.inl ⟨by rfl, ?hg6_6⟩) hHeld ?_
          case hg6_6 => (intro w hSw; (try dsimp only at hSw); go_simp; (try with_reducible rfl))
          try simp only [ps]
          refine tk (i := 6) (v := ?vg6_7) rfl (by kernel_rfl) (fun _ _ _ h => h) (Or.inl ⟨by rfl, ?hg6_7⟩) hHeld ?_
          case hg6_7 => (intro w hSw; (try dsimp only at hSw); go_simp; (try with_reducible rfl))
          try simp only [ps]
          refine tk (i := 7) (v := ?vg6_8) rfl (by kernel_rfl) (fun _ _ _ h => h) (Or.inl ⟨by rfl, ?hg6_8⟩) hHeld ?_
          case hg6_8 => (intro w hSw; (try dsimp only at hSw); go_simp; (try with_reducible rfl))
          try simp only [ps]
          refine wpAnyH_done (by kernel_rfl) ?_ _
          clear hHeld e4 e7
          have P_x := heap_alloc_new Wd (.cells #[.int .i64 ((j : Int) / 2 * 3 + (j : Int) % 2), .int .i64 (((j : Int) / 2 * 3 + (j : Int) % 2) + 1), .int .i64 (((j : Int) / 2 * 3 + (j : Int) % 2) + 3 + 1), .int .i64 (((j : Int) / 2 * 3 + (j : Int) % 2) + 3)] 44)
          have hb := ba1 Wd (.cells #[.int .i64 ((j : Int) / 2 * 3 + (j : Int) % 2), .int .i64 (((j : Int) / 2 * 3 + (j : Int) % 2) + 1), .int .i64 (((j : Int) / 2 * 3 + (j : Int) % 2) + 3 + 1), .int .i64 (((j : Int) / 2 * 3 + (j : Int) % 2) + 3)] 44)
          have hgm := rblk_lt P_m
          have hgh := G.hh
          replace P_m := rblk_below P_m hb
          replace P_r := rblk_below P_r hb
          replace G := G.below hb
          replace kb := bt kb hb
          clear hb
          go_wp2_with fail
          generalize Wd.alloc _ = W2 at *
          generalize Wd.heap.size = gx at *
          go_cut [] (fun wx => ∃ (D2 : Option Addr) (dd hi2 : Nat), Gm (w.heap.size + 2) hi2 wx M (T ++ quadT (M.length : Int) (((j : Int) / 2 * 3 + (j : Int) % 2)) ((((j : Int) / 2 * 3 + (j : Int) % 2) + 1)) ((((j : Int) / 2 * 3 + (j : Int) % 2) + 3 + 1)) ((((j : Int) / 2 * 3 + (j : Int) % 2) + 3))) (.slice A M.length c) (.slice D2 (T ++ quadT (M.length : Int) (((j : Int) / 2 * 3 + (j : Int) % 2)) ((((j : Int) / 2 * 3 + (j : Int) % 2) + 1)) ((((j : Int) / 2 * 3 + (j : Int) % 2) + 3 + 1)) ((((j : Int) / 2 * 3 + (j : Int) % 2) + 3))).length dd) ∧ w.heap.size + 2 ≤ hi2 ∧ wx.heap[w.heap.size + 1]? = some (.cells #[.slice A M.length c, .slice D2 (T ++ quadT (M.length : Int) (((j : Int) / 2 * 3 + (j : Int) % 2)) ((((j : Int) / 2 * 3 + (j : Int) % 2) + 1)) ((((j : Int) / 2 * 3 + (j : Int) % 2) + 3 + 1)) ((((j : Int) / 2 * 3 + (j : Int) % 2) + 3))).length dd] 25 (0, 0)) ∧ wx.heap[w.heap.size]? = some (.cells #[.slice none 0 0, .slice none 0 0] 25 (0, 0)) ∧ Below w.heap.size w wx)
          case first =>
            have hd0 : Below W2.heap.size W2 W2.drew := (Below.refl _ _).drew
            replace P_x := rblk_below P_x hd0
            replace P_m := rblk_below P_m hd0
            replace P_r := rblk_below P_r hd0
            replace G := G.below hd0
            replace kb := bt kb hd0
            clear hd0
            refine wp_region_held_drew (S := fun w' => w'.heap[gx]? = some (.cells #[.int .i64 ((j : Int) / 2 * 3 + (j : Int) % 2), .int .i64 (((j : Int) / 2 * 3 + (j : Int) % 2) + 1), .int .i64 (((j : Int) / 2 * 3 + (j : Int) % 2) + 3 + 1), .int .i64 (((j : Int) / 2 * 3 + (j : Int) % 2) + 3)] 44 (0, 0))) (by kernel_rfl) P_x (fun hHeld => ?_)
            generalize W2.drew = Wd2 at *
            refine tk (i := 0) (v := ?vg7_1) rfl (by kernel_rfl) (fun _ _ _ h => h) (Or.inl ⟨by rfl, ?hg7_1⟩) hHeld ?_
            case hg7_1 => (intro w hSw; (try dsimp only at hSw); go_simp; (try with_reducible rfl))
            try simp only [ps]
            refine tk (i := 2) (v := ?vg7_2) rfl (by kernel_rfl) (fun _ _ _ h => h) (Or.inl ⟨by rfl, ?hg7_2⟩) hHeld ?_
            case hg7_2 => (intro w hSw; (try dsimp only at hSw); go_simp; (try with_reducible rfl))
            try simp only [ps]
            refine tk (i := 5) (v := ?vg7_3) rfl (by kernel_rfl) (fun _ _ _ h => h) (Or.inl ⟨by rfl, ?hg7_3⟩) hHeld ?_
            case hg7_3 => (intro w hSw; (try dsimp only at hSw); have s0 := rblk_cell hSw 0; have s1 := rblk_cell hSw 1; have s2 := rblk_cell hSw 2; have s3 := rblk_cell hSw 3; go_simp; (try with_reducible rfl))
            try simp only [ps]
            refine wpAnyH_ready (rs := [1, 3]) (by kernel_rfl) (by simp) ?_
            refine rc1 rfl (fun K hK => ?_) (rc1 rfl (fun K hK => ?_) AllReadyH.nil)
            · skip
              have t0 := rblk_cell P_m 1
              go_simp
              clear t0
              refine hK.out _ _ P_x (fun hH => ?_)
              replace hHeld := hH
              clear hK K hH
              try simp only [ps]
              refine rd1 (i := 3) (by kernel_rfl) rfl (fun K hK => ?_)
              have t0 := rblk_cell P_m 0
              go_simp
              clear t0
              refine hK.out _ _ P_x (fun hH => ?_)
              replace hHeld := hH
              clear hK K hH
              try simp only [ps]
              refine tk (i := 4) (v := ?vg7_4) rfl (by kernel_rfl) (fun _ _ _ h => h) (Or.inl ⟨by rfl, ?hg7_4⟩) hHeld ?_
              case hg7_4 => (intro w hSw; (try dsimp only at hSw); go_simp; (try with_reducible rfl))
              try simp only [ps]
              refine rd1 (i := 6) (by kernel_rfl) rfl (fun K hK => ?_)
              go_simp
              (go_at_call 16; ((with_reducible refine (HA.out _ _ _ _ _ _).mono ?_); rintro e Wc ⟨gt, ct, rfl, oT, hb⟩))
              replace P_x := rblk_below P_x hb
              replace P_m := rblk_below P_m hb
              replace P_r := rblk_below P_r hb
              replace G := G.below hb
              replace kb := bt kb hb
              clear hb
              refine hK.out _ _ P_x (fun hH => ?_)
              replace hHeld := hH
              clear hK K hH
              try simp only [ps]
              refine rd1 (i := 7) (by kernel_rfl) rfl (fun K hK => ?_)
              refine wanted_op (by rfl) ?_
              refine grow_tri_op (.tmp 68) (.tmp 73) rfl G (quadT (M.length : Int) (((j : Int) / 2 * 3 + (j : Int) % 2)) ((((j : Int) / 2 * 3 + (j : Int) % 2) + 1)) ((((j : Int) / 2 * 3 + (j : Int) % 2) + 3 + 1)) ((((j : Int) / 2 * 3 + (j : Int) % 2) + 3))) ⟨gt, 0, none⟩ ct rfl rfl (owns_cells oT rfl) (by have := HL.out; simp only [quadT, List.length_cons, List.length_nil]; omega) (by omega) ?_
              intro D2 dd w5 G5 k5 t5 _
              replace P_x := t5.blk P_x (.inr hgh)
              have hz5 := k5.size
              replace P_m := (k5.block _ (by omega)).trans P_m
              replace P_r := (k5.block _ (by omega)).trans P_r
              replace kb := kb.trans (k5.mono (by omega))
              clear G oT k5 t5
              refine hK.out _ _ P_x (fun hH => ?_)
              replace hHeld := hH
              clear hK K hH
              try simp only [ps]
              refine tk (i := 8) (v := ?vg7_5) rfl (by kernel_rfl) (fun _ _ _ h => h) (Or.inl ⟨by rfl, ?hg7_5⟩) hHeld ?_
              case hg7_5 => (intro w hSw; (try dsimp only at hSw); go_simp; (try with_reducible rfl))
              try simp only [ps]
              refine rd1 (i := 9) (by kernel_rfl) rfl (fun K hK => ?_)
              have t0 := rblk_cell P_m 1
              have q0 := rblk_free P_m 1
              go_simp
              clear t0 q0
              replace P_r := rblk_other P_r 1 (.slice D2 (T.length + (quadT (M.length : Int) (((j : Int) / 2 * 3 + (j : Int) % 2)) ((((j : Int) / 2 * 3 + (j : Int) % 2) + 1)) ((((j : Int) / 2 * 3 + (j : Int) % 2) + 3 + 1)) ((((j : Int) / 2 * 3 + (j : Int) % 2) + 3))).length) dd) (show (w.heap.size + 1) ≠ w.heap.size by omega)
              replace P_x := rblk_other P_x 1 (.slice D2 (T.length + (quadT (M.length : Int) (((j : Int) / 2 * 3 + (j : Int) % 2)) ((((j : Int) / 2 * 3 + (j : Int) % 2) + 1)) ((((j : Int) / 2 * 3 + (j : Int) % 2) + 3 + 1)) ((((j : Int) / 2 * 3 + (j : Int) % 2) + 3))).length) dd) (show (w.heap.size + 1) ≠ gx by omega)
              replace P_m := rblk_set P_m 1 (.slice D2 (T.length + (quadT (M.length : Int) (((j : Int) / 2 * 3 + (j : Int) % 2)) ((((j : Int) / 2 * 3 + (j : Int) % 2) + 1)) ((((j : Int) / 2 * 3 + (j : Int) % 2) + 3 + 1)) ((((j : Int) / 2 * 3 + (j : Int) % 2) + 3))).length) dd)
              replace G5 := G5.put (g := (w.heap.size + 1)) (i := 1) (by omega) (.slice D2 (T.length + (quadT (M.length : Int) (((j : Int) / 2 * 3 + (j : Int) % 2)) ((((j : Int) / 2 * 3 + (j : Int) % 2) + 1)) ((((j : Int) / 2 * 3 + (j : Int) % 2) + 3 + 1)) ((((j : Int) / 2 * 3 + (j : Int) % 2) + 3))).length) dd)
              replace kb := below_put (o := 1) kb (show w.heap.size ≤ (w.heap.size + 1) by omega) (.slice D2 (T.length + (quadT (M.length : Int) (((j : Int) / 2 * 3 + (j : Int) % 2)) ((((j : Int) / 2 * 3 + (j : Int) % 2) + 1)) ((((j : Int) / 2 * 3 + (j : Int) % 2) + 3 + 1)) ((((j : Int) / 2 * 3 + (j : Int) % 2) + 3))).length) dd)
              have hz3 : (w5.setCell ⟨(w.heap.size + 1), 1, none⟩ (.slice D2 (T.length + (quadT (M.length : Int) (((j : Int) / 2 * 3 + (j : Int) % 2)) ((((j : Int) / 2 * 3 + (j : Int) % 2) + 1)) ((((j : Int) / 2 * 3 + (j : Int) % 2) + 3 + 1)) ((((j : Int) / 2 * 3 + (j : Int) % 2) + 3))).length) dd)).heap.size = w5.heap.size := by simp [World.setCell]
              rw [← hz3] at G5
              clear hz3 hz5
              generalize w5.setCell ⟨(w.heap.size + 1), 1, none⟩ (.slice D2 (T.length + (quadT (M.length : Int) (((j : Int) / 2 * 3 + (j : Int) % 2)) ((((j : Int) / 2 * 3 + (j : Int) % 2) + 1)) ((((j : Int) / 2 * 3 + (j : Int) % 2) + 3 + 1)) ((((j : Int) / 2 * 3 + (j : Int) % 2) + 3))).length) dd) = w6 at *
              refine hK.out _ _ P_x (fun hH => ?_)
              replace hHeld := hH
              clear hK K hH
              try simp only [ps]
              refine wpAnyH_done (by kernel_rfl) ?_ _
              have hz6 := rblk_lt P_x
              have hB6 : w.heap.size + 2 ≤ w6.heap.size := by omega
              rw [show (#[Value.slice A M.length c, Value.slice D T.length d].setIfInBounds 1 (.slice D2 (T.length + (quadT (M.length : Int) (((j : Int) / 2 * 3 + (j : Int) % 2)) ((((j : Int) / 2 * 3 + (j : Int) % 2) + 1)) ((((j : Int) / 2 * 3 + (j : Int) % 2) + 3 + 1)) ((((j : Int) / 2 * 3 + (j : Int) % 2) + 3))).length) dd)) = #[.slice A M.length c, .slice D2 (T.length + (quadT (M.length : Int) (((j : Int) / 2 * 3 + (j : Int) % 2)) ((((j : Int) / 2 * 3 + (j : Int) % 2) + 1)) ((((j : Int) / 2 * 3 + (j : Int) % 2) + 3 + 1)) ((((j : Int) / 2 * 3 + (j : Int) % 2) + 3))).length) dd] from rfl] at P_m
              have HN : (T ++ quadT (M.length : Int) (((j : Int) / 2 * 3 + (j : Int) % 2)) ((((j : Int) / 2 * 3 + (j : Int) % 2) + 1)) ((((j : Int) / 2 * 3 + (j : Int) % 2) + 3 + 1)) ((((j : Int) / 2 * 3 + (j : Int) % 2) + 3))).length = T.length + (quadT (M.length : Int) (((j : Int) / 2 * 3 + (j : Int) % 2)) ((((j : Int) / 2 * 3 + (j : Int) % 2) + 1)) ((((j : Int) / 2 * 3 + (j : Int) % 2) + 3 + 1)) ((((j : Int) / 2 * 3 + (j : Int) % 2) + 3))).length := List.length_append
              rw [← HN] at P_m G5
              have HX := Lib.hid (And.intro G5 (And.intro hB6 (And.intro P_m (And.intro P_r kb))))
              clear G5 P_m P_r kb P_x hHeld HN hz6 hB6 hgm hgh
              go_wp2_with fail
              go_meet
              exact ⟨_, _, _, HX.out⟩
            · skip
              have t0 := rblk_cell P_m 0
              go_simp
              clear t0
              refine hK.out _ _ P_x (fun hH => ?_)
              replace hHeld := hH
              clear hK K hH
              try simp only [ps]
              refine tk (i := 4) (v := ?vg7_6) rfl (by kernel_rfl) (fun _ _ _ h => h) (Or.inl ⟨by rfl, ?hg7_6⟩) hHeld ?_
              case hg7_6 => (intro w hSw; (try dsimp only at hSw); go_simp; (try with_reducible rfl))
              try simp only [ps]
              refine wpAnyH_ready (rs := [1, 6]) (by kernel_rfl) (by simp) ?_
              refine rc1 rfl (fun K hK => ?_) (rc1 rfl (fun K hK => ?_) AllReadyH.nil)
              · skip
                have t0 := rblk_cell P_m 1
                go_simp
                clear t0
                refine hK.out _ _ P_x (fun hH => ?_)
                replace hHeld := hH
                clear hK K hH
                try simp only [ps]
                refine rd1 (i := 6) (by kernel_rfl) rfl (fun K hK => ?_)
                go_simp
                (go_at_call 16; ((with_reducible refine (HA.out _ _ _ _ _ _).mono ?_); rintro e Wc ⟨gt, ct, rfl, oT, hb⟩))
                replace P_x := rblk_below P_x hb
                replace P_m := rblk_below P_m hb
                replace P_r := rblk_below P_r hb
                replace G := G.below hb
                replace kb := bt kb hb
                clear hb
                refine hK.out _ _ P_x (fun hH => ?_)
                replace hHeld := hH
                clear hK K hH
                try simp only [ps]
                refine rd1 (i := 7) (by kernel_rfl) rfl (fun K hK => ?_)
                refine wanted_op (by rfl) ?_
                refine grow_tri_op (.tmp 68) (.tmp 73) rfl G (quadT (M.length : Int) (((j : Int) / 2 * 3 + (j : Int) % 2)) ((((j : Int) / 2 * 3 + (j : Int) % 2) + 1)) ((((j : Int) / 2 * 3 + (j : Int) % 2) + 3 + 1)) ((((j : Int) / 2 * 3 + (j : Int) % 2) + 3))) ⟨gt, 0, none⟩ ct rfl rfl (owns_cells oT rfl) (by have := HL.out; simp only [quadT, List.length_cons, List.length_nil]; omega) (by omega) ?_
                intro D2 dd w5 G5 k5 t5 _
                replace P_x := t5.blk P_x (.inr hgh)
                have hz5 := k5.size
                replace P_m := (k5.block _ (by omega)).trans P_m
                replace P_r := (k5.block _ (by omega)).trans P_r
                replace kb := kb.trans (k5.mono (by omega))
                clear G oT k5 t5
                refine hK.out _ _ P_x (fun hH => ?_)
                replace hHeld := hH
                clear hK K hH
                try simp only [ps]
                refine tk (i := 8) (v := ?vg7_7) rfl (by kernel_rfl) (fun _ _ _ h => h) (Or.inl ⟨by rfl, ?hg7_7⟩) hHeld ?_
                case hg7_7 => (intro w hSw; (try dsimp only at hSw); go_simp; (try with_reducible rfl))
                try simp only [ps]
                refine rd1 (i := 9) (by kernel_rfl) rfl (fun K hK => ?_)
                have t0 := rblk_cell P_m 1
                have q0 := rblk_free P_m 1
                go_simp
                clear t0 q0
                replace P_r := rblk_other P_r 1 (.slice D2 (T.length + (quadT (M.length : Int) (((j : Int) / 2 * 3 + (j : Int) % 2)) ((((j : Int) / 2 * 3 + (j : Int) % 2) + 1)) ((((j : Int) / 2 * 3 + (j : Int) % 2) + 3 + 1)) ((((j : Int) / 2 * 3 + (j : Int) % 2) + 3))).length) dd) (show (w.heap.size + 1) ≠ w.heap.size by omega)
                replace P_x := rblk_other P_x 1 (.slice D2 (T.length + (quadT (M.length : Int) (((j : Int) / 2 * 3 + (j : Int) % 2)) ((((j : Int) / 2 * 3 + (j : Int) % 2) + 1)) ((((j : Int) / 2 * 3 + (j : Int) % 2) + 3 + 1)) ((((j : Int) / 2 * 3 + (j : Int) % 2) + 3))).length) dd) (show (w.heap.size + 1) ≠ gx by omega)
                replace P_m := rblk_set P_m 1 (.slice D2 (T.length + (quadT (M.length : Int) (((j : Int) / 2 * 3 + (j : Int) % 2)) ((((j : Int) / 2 * 3 + (j : Int) % 2) + 1)) ((((j : Int) / 2 * 3 + (j : Int) % 2) + 3 + 1)) ((((j : Int) / 2 * 3 + (j : Int) % 2) + 3))).length) dd)
                replace G5 := G5.put (g := (w.heap.size + 1)) (i := 1) (by omega) (.slice D2 (T.length + (quadT (M.length : Int) (((j : Int) / 2 * 3 + (j : Int) % 2)) ((((j : Int) / 2 * 3 + (j : Int) % 2) + 1)) ((((j : Int) / 2 * 3 + (j : Int) % 2) + 3 + 1)) ((((j : Int) / 2 * 3 + (j : Int) % 2) + 3))).length) dd)
                replace kb := below_put (o := 1) kb (show w.heap.size ≤ (w.heap.size + 1) by omega) (.slice D2 (T.length + (quadT (M.length : Int) (((j : Int) / 2 * 3 + (j : Int) % 2)) ((((j : Int) / 2 * 3 + (j : Int) % 2) + 1)) ((((j : Int) / 2 * 3 + (j : Int) % 2) + 3 + 1)) ((((j : Int) / 2 * 3 + (j : Int) % 2) + 3))).length) dd)
                have hz3 : (w5.setCell ⟨(w.heap.size + 1), 1, none⟩ (.slice D2 (T.length + (quadT (M.length : Int) (((j : Int) / 2 * 3 + (j : Int) % 2)) ((((j : Int) / 2 * 3 + (j : Int) % 2) + 1)) ((((j : Int) / 2 * 3 + (j : Int) % 2) + 3 + 1)) ((((j : Int) / 2 * 3 + (j : Int) % 2) + 3))).length) dd)).heap.size = w5.heap.size := by simp [World.setCell]
                rw [← hz3] at G5
                clear hz3 hz5
                generalize w5.setCell ⟨(w.heap.size + 1), 1, none⟩ (.slice D2 (T.length + (quadT (M.length : Int) (((j : Int) / 2 * 3 + (j : Int) % 2)) ((((j : Int) / 2 * 3 + (j : Int) % 2) + 1)) ((((j : Int) / 2 * 3 + (j : Int) % 2) + 3 + 1)) ((((j : Int) / 2 * 3 + (j : Int) % 2) + 3))).length) dd) = w6 at *
                refine hK.out _ _ P_x (fun hH => ?_)
                replace hHeld := hH
                clear hK K hH
                try simp only [ps]
                refine wpAnyH_done (by kernel_rfl) ?_ _
                have hz6 := rblk_lt P_x
                have hB6 : w.heap.size + 2 ≤ w6.heap.size := by omega
                rw [show (#[Value.slice A M.length c, Value.slice D T.length d].setIfInBounds 1 (.slice D2 (T.length + (quadT (M.length : Int) (((j : Int) / 2 * 3 + (j : Int) % 2)) ((((j : Int) / 2 * 3 + (j : Int) % 2) + 1)) ((((j : Int) / 2 * 3 + (j : Int) % 2) + 3 + 1)) ((((j : Int) / 2 * 3 + (j : Int) % 2) + 3))).length) dd)) = #[.slice A M.length c, .slice D2 (T.length + (quadT (M.length : Int) (((j : Int) / 2 * 3 + (j : Int) % 2)) ((((j : Int) / 2 * 3 + (j : Int) % 2) + 1)) ((((j : Int) / 2 * 3 + (j : Int) % 2) + 3 + 1)) ((((j : Int) / 2 * 3 + (j : Int) % 2) + 3))).length) dd] from rfl] at P_m
                have HN : (T ++ quadT (M.length : Int) (((j : Int) / 2 * 3 + (j : Int) % 2)) ((((j : Int) / 2 * 3 + (j : Int) % 2) + 1)) ((((j : Int) / 2 * 3 + (j : Int) % 2) + 3 + 1)) ((((j : Int) / 2 * 3 + (j : Int) % 2) + 3))).length = T.length + (quadT (M.length : Int) (((j : Int) / 2 * 3 + (j : Int) % 2)) ((((j : Int) / 2 * 3 + (j : Int) % 2) + 1)) ((((j : Int) / 2 * 3 + (j : Int) % 2) + 3 + 1)) ((((j : Int) / 2 * 3 + (j : Int) % 2) + 3))).length := List.length_append
                rw [← HN] at P_m G5
                have HX := Lib.hid (And.intro G5 (And.intro hB6 (And.intro P_m (And.intro P_r kb))))
                clear G5 P_m P_r kb P_x hHeld HN hz6 hB6 hgm hgh
                go_wp2_with fail
                go_meet
                exact ⟨_, _, _, HX.out⟩
              · skip
                go_simp
                (go_at_call 16; ((with_reducible refine (HA.out _ _ _ _ _ _).mono ?_); rintro e Wc ⟨gt, ct, rfl, oT, hb⟩))
                replace P_x := rblk_below P_x hb
                replace P_m := rblk_below P_m hb
                replace P_r := rblk_below P_r hb
                replace G := G.below hb
                replace kb := bt kb hb
                clear hb
                refine hK.out _ _ P_x (fun hH => ?_)
                replace hHeld := hH
                clear hK K hH
                try simp only [ps]
                refine rd1 (i := 1) (by kernel_rfl) rfl (fun K hK => ?_)
                have t0 := rblk_cell P_m 1
                go_simp
                clear t0
                refine hK.out _ _ P_x (fun hH => ?_)
                replace hHeld := hH
                clear hK K hH
                try simp only [ps]
                refine rd1 (i := 7) (by kernel_rfl) rfl (fun K hK => ?_)
                refine wanted_op (by rfl) ?_
                refine grow_tri_op (.tmp 68) (.tmp 73) rfl G (quadT (M.length : Int) (((j : Int) / 2 * 3 + (j : Int) % 2)) ((((j : Int) / 2 * 3 + (j : Int) % 2) + 1)) ((((j : Int) / 2 * 3 + (j : Int) % 2) + 3 + 1)) ((((j : Int) / 2 * 3 + (j : Int) % 2) + 3))) ⟨gt, 0, none⟩ ct rfl rfl (owns_cells oT rfl) (by have := HL.out; simp only [quadT, List.length_cons, List.length_nil]; omega) (by omega) ?_
                intro D2 dd w5 G5 k5 t5 _
                replace P_x := t5.blk P_x (.inr hgh)
                have hz5 := k5.size
                replace P_m := (k5.block _ (by omega)).trans P_m
                replace P_r := (k5.block _ (by omega)).trans P_r
                replace kb := kb.trans (k5.mono (by omega))
                clear G oT k5 t5
                refine hK.out _ _ P_x (fun hH => ?_)
                replace hHeld := hH
                clear hK K hH
                try simp only [ps]
                refine tk (i := 8) (v := ?vg7_8) rfl (by kernel_rfl) (fun _ _ _ h => h) (Or.inl ⟨by rfl, ?hg7_8⟩) hHeld ?_
                case hg7_8 => (intro w hSw; (try dsimp only at hSw); go_simp; (try with_reducible rfl))
                try simp only [ps]
                refine rd1 (i := 9) (by kernel_rfl) rfl (fun K hK => ?_)
                have t0 := rblk_cell P_m 1
                have q0 := rblk_free P_m 1
                go_simp
                clear t0 q0
                replace P_r := rblk_other P_r 1 (.slice D2 (T.length + (quadT (M.length : Int) (((j : Int) / 2 * 3 + (j : Int) % 2)) ((((j : Int) / 2 * 3 + (j : Int) % 2) + 1)) ((((j : Int) / 2 * 3 + (j : Int) % 2) + 3 + 1)) ((((j : Int) / 2 * 3 + (j : Int) % 2) + 3))).length) dd) (show (w.heap.size + 1) ≠ w.heap.size by omega)
                replace P_x := rblk_other P_x 1 (.slice D2 (T.length + (quadT (M.length : Int) (((j : Int) / 2 * 3 + (j : Int) % 2)) ((((j : Int) / 2 * 3 + (j : Int) % 2) + 1)) ((((j : Int) / 2 * 3 + (j : Int) % 2) + 3 + 1)) ((((j : Int) / 2 * 3 + (j : Int) % 2) + 3))).length) dd) (show (w.heap.size + 1) ≠ gx by omega)
                replace P_m := rblk_set P_m 1 (.slice D2 (T.length + (quadT (M.length : Int) (((j : Int) / 2 * 3 + (j : Int) % 2)) ((((j : Int) / 2 * 3 + (j : Int) % 2) + 1)) ((((j : Int) / 2 * 3 + (j : Int) % 2) + 3 + 1)) ((((j : Int) / 2 * 3 + (j : Int) % 2) + 3))).length) dd)
                replace G5 := G5.put (g := (w.heap.size + 1)) (i := 1) (by omega) (.slice D2 (T.length + (quadT (M.length : Int) (((j : Int) / 2 * 3 + (j : Int) % 2)) ((((j : Int) / 2 * 3 + (j : Int) % 2) + 1)) ((((j : Int) / 2 * 3 + (j : Int) % 2) + 3 + 1)) ((((j : Int) / 2 * 3 + (j : Int) % 2) + 3))).length) dd)
                replace kb := below_put (o := 1) kb (show w.heap.size ≤ (w.heap.size + 1) by omega) (.slice D2 (T.length + (quadT (M.length : Int) (((j : Int) / 2 * 3 + (j : Int) % 2)) ((((j : Int) / 2 * 3 + (j : Int) % 2) + 1)) ((((j : Int) / 2 * 3 + (j : Int) % 2) + 3 + 1)) ((((j : Int) / 2 * 3 + (j : Int) % 2) + 3))).length) dd)
                have hz3 : (w5.setCell ⟨(w.heap.size + 1), 1, none⟩ (.slice D2 (T.length + (quadT (M.length : Int) (((j : Int) / 2 * 3 + (j : Int) % 2)) ((((j : Int) / 2 * 3 + (j : Int) % 2) + 1)) ((((j : Int) / 2 * 3 + (j : Int) % 2) + 3 + 1)) ((((j : Int) / 2 * 3 + (j : Int) % 2) + 3))).length) dd)).heap.size = w5.heap.size := by simp [World.setCell]
                rw [← hz3] at G5
                clear hz3 hz5
                generalize w5.setCell ⟨(w.heap.size + 1), 1, none⟩ (.slice D2 (T.length + (quadT (M.length : Int) (((j : Int) / 2 * 3 + (j : Int) % 2)) ((((j : Int) / 2 * 3 + (j : Int) % 2) + 1)) ((((j : Int) / 2 * 3 + (j : Int) % 2) + 3 + 1)) ((((j : Int) / 2 * 3 + (j : Int) % 2) + 3))).length) dd) = w6 at *
                refine hK.out _ _ P_x (fun hH => ?_)
                replace hHeld := hH
                clear hK K hH
                try simp only [ps]
                refine wpAnyH_done (by kernel_rfl) ?_ _
                have hz6 := rblk_lt P_x
                have hB6 : w.heap.size + 2 ≤ w6.heap.size := by omega
                rw [show (#[Value.slice A M.length c, Value.slice D T.length d].setIfInBounds 1 (.slice D2 (T.length + (quadT (M.length : Int) (((j : Int) / 2 * 3 + (j : Int) % 2)) ((((j : Int) / 2 * 3 + (j : Int) % 2) + 1)) ((((j : Int) / 2 * 3 + (j : Int) % 2) + 3 + 1)) ((((j : Int) / 2 * 3 + (j : Int) % 2) + 3))).length) dd)) = #[.slice A M.length c, .slice D2 (T.length + (quadT (M.length : Int) (((j : Int) / 2 * 3 + (j : Int) % 2)) ((((j : Int) / 2 * 3 + (j : Int) % 2) + 1)) ((((j : Int) / 2 * 3 + (j : Int) % 2) + 3 + 1)) ((((j : Int) / 2 * 3 + (j : Int) % 2) + 3))).length) dd] from rfl] at P_m
                have HN : (T ++ quadT (M.length : Int) (((j : Int) / 2 * 3 + (j : Int) % 2)) ((((j : Int) / 2 * 3 + (j : Int) % 2) + 1)) ((((j : Int) / 2 * 3 + (j : Int) % 2) + 3 + 1)) ((((j : Int) / 2 * 3 + (j : Int) % 2) + 3))).length = T.length + (quadT (M.length : Int) (((j : Int) / 2 * 3 + (j : Int) % 2)) ((((j : Int) / 2 * 3 + (j : Int) % 2) + 1)) ((((j : Int) / 2 * 3 + (j : Int) % 2) + 3 + 1)) ((((j : Int) / 2 * 3 + (j : Int) % 2) + 3))).length := List.length_append
                rw [← HN] at P_m G5
                have HX := Lib.hid (And.intro G5 (And.intro hB6 (And.intro P_m (And.intro P_r kb))))
                clear G5 P_m P_r kb P_x hHeld HN hz6 hB6 hgm hgh
                go_wp2_with fail
                go_meet
                exact ⟨_, _, _, HX.out⟩
          case rest =>
            clear G P_m P_r kb P_x hB hgm hgh
            obtain ⟨D2, dd, hi2, G, hB, P_m, P_r, kb⟩ := hcut
            have HT : Hid (T ++ quadT (M.length : Int) (((j : Int) / 2 * 3 + (j : Int) % 2)) ((((j : Int) / 2 * 3 + (j : Int) % 2) + 1)) ((((j : Int) / 2 * 3 + (j : Int) % 2) + 3 + 1)) ((((j : Int) / 2 * 3 + (j : Int) % 2) + 3)) = sqT 2 (j + 1)) := Lib.hid (by rw [HD.out.2, sqT_succ]; congr 1; have := HE.out.1; exact quad_eq (by omega) (by unfold sqLow; omega) (by unfold sqLow; omega) (by unfold sqLow; omega) (by unfold sqLow; omega))
            generalize T ++ quadT (M.length : Int) (((j : Int) / 2 * 3 + (j : Int) % 2)) ((((j : Int) / 2 * 3 + (j : Int) % 2) + 1)) ((((j : Int) / 2 * 3 + (j : Int) % 2) + 3 + 1)) ((((j : Int) / 2 * 3 + (j : Int) % 2) + 3)) = T6 at *
            have ex1 : IntKind.i64.wrap (2 * ((j : Int) % 2)) = 2 * ((j : Int) % 2) := IntWalk.i64_in _ (by omega)
            have ex2 : IntKind.i64.wrap (2 * ((j : Int) % 2) + 1) = 2 * ((j : Int) % 2) + 1 := IntWalk.i64_in _ (by omega)
            have ey1 : IntKind.i64.wrap (2 * ((j : Int) / 2)) = 2 * ((j : Int) / 2) := IntWalk.i64_in _ (by omega)
            have ey2 : IntKind.i64.wrap (2 * ((j : Int) / 2) + 1) = 2 * ((j : Int) / 2) + 1 := IntWalk.i64_in _ (by omega)
            go_wp2_with fail
            have hd0 : Below wc.heap.size wc wc.drew := (Below.refl _ _).drew
            replace P_m := rblk_below P_m hd0
            replace P_r := rblk_below P_r hd0
            replace G := G.below hd0
            replace kb := bt kb hd0
            clear hd0
            refine wp_region_held_drew (S := fun w' => True) (by kernel_rfl) trivial (fun hHeld => ?_)
            generalize wc.drew = Wd at *
            refine tk (i := 0) (v := ?vg8_1) rfl (by kernel_rfl) (fun _ _ _ h => h) (Or.inl ⟨by rfl, ?hg8_1⟩) hHeld ?_
            case hg8_1 => (intro w hSw; (try dsimp only at hSw); go_simp; (try with_reducible rfl))
            try simp only [ps]
            refine tk (i := 2) (v := ?vg8_2) rfl (by kernel_rfl) (fun _ _ _ h => h) (Or.inl ⟨by rfl, ?hg8_2⟩) hHeld ?_
            case hg8_2 => (intro w hSw; (try dsimp only at hSw); go_simp; (try with_reducible rfl))
            try simp only [ps]
            refine tk (i := 3) (v := ?vg8_3) rfl (by kernel_rfl) (fun _ _ _ h => h) (Or.inl ⟨by rfl, ?hg8_3⟩) hHeld ?_
            case hg8_3 => (intro w hSw; (try dsimp only at hSw); go_simp; (try with_reducible rfl))
            try simp only [ps]
            refine tk (i := 4) (v := ?vg8_4) rfl (by kernel_rfl) (fun _ _ _ h => h) (Or.inl ⟨by rfl, ?hg8_4⟩) hHeld ?_
            case hg8_4 => (intro w hSw; (try dsimp only at hSw); go_simp; (try with_reducible rfl))
            try simp only [ps]
            refine tk (i := 5) (v := ?vg8_5) rfl (by kernel_rfl) (fun _ _ _ h => h) (Or.inl ⟨by rfl, ?hg8_5⟩) hHeld ?_
            case hg8_5 => (intro w hSw; (try dsimp only at hSw); go_simp; (try with_reducible rfl))
            try simp only [ps]
            refine tk (i := 6) (v := ?vg8_6) rfl (by kernel_rfl) (fun _ _ _ h => h) (Or.inl ⟨by rfl, ?hg8_6⟩) hHeld ?_
            case hg8_6 => (intro w hSw; (try dsimp only at hSw); go_simp; (try with_reducible rfl))
            try simp only [ps]
            refine tk (i := 7) (v := ?vg8_7) rfl (by kernel_rfl) (fun _ _ _ h => h) (Or.inl ⟨by rfl, ?hg8_7⟩) hHeld ?_
            case hg8_7 => (intro w hSw; (try dsimp only at hSw); go_simp; (try with_reducible rfl))
            try simp only [ps]
            refine wpAnyH_ready (rs := [1, 8]) (by kernel_rfl) (by simp) ?_
            refine rc1 rfl (fun K hK => ?_) (rc1 rfl (fun K hK => ?_) AllReadyH.nil)
            · skip
              have t0 := rblk_cell P_m 0
              go_simp
              clear t0
              refine hK.out _ _ trivial (fun hH => ?_)
              replace hHeld := hH
              clear hK K hH
              try simp only [ps]
              refine rd1 (i := 8) (by kernel_rfl) rfl (fun K hK => ?_)
              have hz0 := G.hh
              go_simp
              (go_at_call 17; ((with_reducible refine (HQ.out j _ hlt).mono ?_); rintro e Wc ⟨a1, a2, rfl, hcs, oq, apq, hb⟩))
              replace P_m := rblk_below P_m hb
              replace P_r := rblk_below P_r hb
              replace G := G.below hb
              replace kb := bt kb hb
              clear hb hcs
              refine hK.out _ _ trivial (fun hH => ?_)
              replace hHeld := hH
              clear hK K hH
              try simp only [ps]
              refine rd1 (i := 9) (by kernel_rfl) rfl (fun K hK => ?_)
              go_simp
              refine hK.out _ _ trivial (fun hH => ?_)
              replace hHeld := hH
              clear hK K hH
              try simp only [ps]
              refine rd1 (i := 10) (by kernel_rfl) rfl (fun K hK => ?_)
              refine wanted_op (by rfl) ?_
              refine grow_pt_op (.tmp 77) (.tmp 85) rfl G ⟨(ofO (ofQ (2 * ((j : Int) % 2) + 1) 2)), (ofO (ofQ (2 * ((j : Int) / 2) + 1) 2)), a1, a2⟩ rfl rfl (by have := HL.out; omega) (by omega) hz0 oq apq ?_
              intro A2 cc w2 G2 k2 _ _
              have hz2 := k2.size
              replace P_m := (k2.block _ (by omega)).trans P_m
              replace P_r := (k2.block _ (by omega)).trans P_r
              replace kb := kb.trans (k2.mono (by omega))
              clear G oq apq k2 hz0
              refine hK.out _ _ trivial (fun hH => ?_)
              replace hHeld := hH
              clear hK K hH
              try simp only [ps]
              refine tk (i := 11) (v := ?vg8_8) rfl (by kernel_rfl) (fun _ _ _ h => h) (Or.inl ⟨by rfl, ?hg8_8⟩) hHeld ?_
              case hg8_8 => (intro w hSw; (try dsimp only at hSw); go_simp; (try with_reducible rfl))
              try simp only [ps]
              refine rd1 (i := 12) (by kernel_rfl) rfl (fun K hK => ?_)
              have t0 := rblk_cell P_m 0
              have q0 := rblk_free P_m 0
              go_simp
              clear t0 q0
              replace P_r := rblk_other P_r 0 (.slice A2 (M.length + 1) cc) (show (w.heap.size + 1) ≠ w.heap.size by omega)
              replace P_m := rblk_set P_m 0 (.slice A2 (M.length + 1) cc)
              replace G2 := G2.put (g := (w.heap.size + 1)) (i := 0) (by omega) (.slice A2 (M.length + 1) cc)
              replace kb := below_put (o := 0) kb (show w.heap.size ≤ (w.heap.size + 1) by omega) (.slice A2 (M.length + 1) cc)
              have hz3 : (w2.setCell ⟨(w.heap.size + 1), 0, none⟩ (.slice A2 (M.length + 1) cc)).heap.size = w2.heap.size := by simp [World.setCell]
              rw [← hz3] at G2
              clear hz3 hz2
              generalize w2.setCell ⟨(w.heap.size + 1), 0, none⟩ (.slice A2 (M.length + 1) cc) = w3 at *
              refine hK.out _ _ trivial (fun hH => ?_)
              replace hHeld := hH
              clear hK K hH
              try simp only [ps]
              refine wpAnyH_done (by kernel_rfl) ?_ _
              have HZ := Lib.hid (rblk_lt P_m)
              rw [show (#[Value.slice A M.length c, Value.slice D2 T6.length dd].setIfInBounds 0 (.slice A2 (M.length + 1) cc)) = #[.slice A2 (M.length + 1) cc, .slice D2 T6.length dd] from rfl] at P_m
              have HX := Lib.hid (And.intro G2 (And.intro P_m (And.intro P_r kb)))
              clear G2 P_m P_r kb ex1 ex2 ey1 ey2
              go_wp2
              go_roundw
              case rel => exact ⟨j + 1, M ++ [⟨(ofO (ofQ (2 * ((j : Int) % 2) + 1) 2)), (ofO (ofQ (2 * ((j : Int) / 2) + 1) 2)), a1, a2⟩], T6, A2, D2, cc, dd, _, by omega, by go_num, by rw [dat_app, HD.out.1, sqP_succ]; rfl, HT.out, by rw [List.length_append]; exact HX.out.1, by have := HX.out.1.hh; have := HZ.out; omega, by rw [List.length_append]; exact HX.out.2.1, HX.out.2.2.1, HX.out.2.2.2⟩
              case measure => simp [intOf]; omega
            · skip
              have hz0 := G.hh
              go_simp
              (go_at_call 17; ((with_reducible refine (HQ.out j _ hlt).mono ?_); rintro e Wc ⟨a1, a2, rfl, hcs, oq, apq, hb⟩))
              replace P_m := rblk_below P_m hb
              replace P_r := rblk_below P_r hb
              replace G := G.below hb
              replace kb := bt kb hb
              clear hb hcs
              refine hK.out _ _ trivial (fun hH => ?_)
              replace hHeld := hH
              clear hK K hH
              try simp only [ps]
              refine wpAnyH_ready (rs := [1, 9]) (by kernel_rfl) (by simp) ?_
              refine rc1 rfl (fun K hK => ?_) (rc1 rfl (fun K hK => ?_) AllReadyH.nil)
              · skip
                have t0 := rblk_cell P_m 0
                go_simp
                clear t0
                refine hK.out _ _ trivial (fun hH => ?_)
                replace hHeld := hH
                clear hK K hH
                try simp only [ps]
                refine rd1 (i := 9) (by kernel_rfl) rfl (fun K hK => ?_)
                go_simp
                refine hK.out _ _ trivial (fun hH => ?_)
                replace hHeld := hH
                clear hK K hH
                try simp only [ps]
                refine rd1 (i := 10) (by kernel_rfl) rfl (fun K hK => ?_)
                refine wanted_op (by rfl) ?_
                refine grow_pt_op (.tmp 77) (.tmp 85) rfl G ⟨(ofO (ofQ (2 * ((j : Int) % 2) + 1) 2)), (ofO (ofQ (2 * ((j : Int) / 2) + 1) 2)), a1, a2⟩ rfl rfl (by have := HL.out; omega) (by omega) hz0 oq apq ?_
                intro A2 cc w2 G2 k2 _ _
                have hz2 := k2.size
                replace P_m := (k2.block _ (by omega)).trans P_m
                replace P_r := (k2.block _ (by omega)).trans P_r
                replace kb := kb.trans (k2.mono (by omega))
                clear G oq apq k2 hz0
                refine hK.out _ _ trivial (fun hH => ?_)
                replace hHeld := hH
                clear hK K hH
                try simp only [ps]
                refine tk (i := 11) (v := ?vg8_9) rfl (by kernel_rfl) (fun _ _ _ h => h) (Or.inl ⟨by rfl, ?hg8_9⟩) hHeld ?_
                case hg8_9 => (intro w hSw; (try dsimp only at hSw); go_simp; (try with_reducible rfl))
                try simp only [ps]
                refine rd1 (i := 12) (by kernel_rfl) rfl (fun K hK => ?_)
                have t0 := rblk_cell P_m 0
                have q0 := rblk_free P_m 0
                go_simp
                clear t0 q0
                replace P_r := rblk_other P_r 0 (.slice A2 (M.length + 1) cc) (show (w.heap.size + 1) ≠ w.heap.size by omega)
                replace P_m := rblk_set P_m 0 (.slice A2 (M.length + 1) cc)
                replace G2 := G2.put (g := (w.heap.size + 1)) (i := 0) (by omega) (.slice A2 (M.length + 1) cc)
                replace kb := below_put (o := 0) kb (show w.heap.size ≤ (w.heap.size + 1) by omega) (.slice A2 (M.length + 1) cc)
                have hz3 : (w2.setCell ⟨(w.heap.size + 1), 0, none⟩ (.slice A2 (M.length + 1) cc)).heap.size = w2.heap.size := by simp [World.setCell]
                rw [← hz3] at G2
                clear hz3 hz2
                generalize w2.setCell ⟨(w.heap.size + 1), 0, none⟩ (.slice A2 (M.length + 1) cc) = w3 at *
                refine hK.out _ _ trivial (fun hH => ?_)
                replace hHeld := hH
                clear hK K hH
                try simp only [ps]
                refine wpAnyH_done (by kernel_rfl) ?_ _
                have HZ := Lib.hid (rblk_lt P_m)
                rw [show (#[Value.slice A M.length c, Value.slice D2 T6.length dd].setIfInBounds 0 (.slice A2 (M.length + 1) cc)) = #[.slice A2 (M.length + 1) cc, .slice D2 T6.length dd] from rfl] at P_m
                have HX := Lib.hid (And.intro G2 (And.intro P_m (And.intro P_r kb)))
                clear G2 P_m P_r kb ex1 ex2 ey1 ey2
                go_wp2
                go_roundw
                case rel => exact ⟨j + 1, M ++ [⟨(ofO (ofQ (2 * ((j : Int) % 2) + 1) 2)), (ofO (ofQ (2 * ((j : Int) / 2) + 1) 2)), a1, a2⟩], T6, A2, D2, cc, dd, _, by omega, by go_num, by rw [dat_app, HD.out.1, sqP_succ]; rfl, HT.out, by rw [List.length_append]; exact HX.out.1, by have := HX.out.1.hh; have := HZ.out; omega, by rw [List.length_append]; exact HX.out.2.1, HX.out.2.2.1, HX.out.2.2.2⟩
                case measure => simp [intOf]; omega
              · skip
                go_simp
                refine hK.out _ _ trivial (fun hH => ?_)
                replace hHeld := hH
                clear hK K hH
                try simp only [ps]
                refine rd1 (i := 1) (by kernel_rfl) rfl (fun K hK => ?_)
                have t0 := rblk_cell (rblk_below P_m (ba1 _ (.cells #[.bool (ofO (ofQ (2 * ((j : Int) % 2) + 1) 2)).p, .slice a1.A (ofO (ofQ (2 * ((j : Int) % 2) + 1) 2)).l.length a1.c, .slice a1.D (ofO (ofQ (2 * ((j : Int) % 2) + 1) 2)).m.length a1.d, .bool (ofO (ofQ (2 * ((j : Int) / 2) + 1) 2)).p, .slice a2.A (ofO (ofQ (2 * ((j : Int) / 2) + 1) 2)).l.length a2.c, .slice a2.D (ofO (ofQ (2 * ((j : Int) / 2) + 1) 2)).m.length a2.d] 39))) 0
                go_simp
                clear t0
                refine hK.out _ _ trivial (fun hH => ?_)
                replace hHeld := hH
                clear hK K hH
                try simp only [ps]
                refine rd1 (i := 10) (by kernel_rfl) rfl (fun K hK => ?_)
                refine wanted_op (by rfl) ?_
                refine grow_pt_op (.tmp 77) (.tmp 85) rfl G ⟨(ofO (ofQ (2 * ((j : Int) % 2) + 1) 2)), (ofO (ofQ (2 * ((j : Int) / 2) + 1) 2)), a1, a2⟩ rfl rfl (by have := HL.out; omega) (by omega) hz0 oq apq ?_
                intro A2 cc w2 G2 k2 _ _
                have hz2 := k2.size
                replace P_m := (k2.block _ (by omega)).trans P_m
                replace P_r := (k2.block _ (by omega)).trans P_r
                replace kb := kb.trans (k2.mono (by omega))
                clear G oq apq k2 hz0
                refine hK.out _ _ trivial (fun hH => ?_)
                replace hHeld := hH
                clear hK K hH
                try simp only [ps]
                refine tk (i := 11) (v := ?vg8_10) rfl (by kernel_rfl) (fun _ _ _ h => h) (Or.inl ⟨by rfl, ?hg8_10⟩) hHeld ?_
                case hg8_10 => (intro w hSw; (try dsimp only at hSw); go_simp; (try with_reducible rfl))
                try simp only [ps]
                refine rd1 (i := 12) (by kernel_rfl) rfl (fun K hK => ?_)
                have t0 := rblk_cell P_m 0
                have q0 := rblk_free P_m 0
                go_simp
                clear t0 q0
                replace P_r := rblk_other P_r 0 (.slice A2 (M.length + 1) cc) (show (w.heap.size + 1) ≠ w.heap.size by omega)
                replace P_m := rblk_set P_m 0 (.slice A2 (M.length + 1) cc)
                replace G2 := G2.put (g := (w.heap.size + 1)) (i := 0) (by omega) (.slice A2 (M.length + 1) cc)
                replace kb := below_put (o := 0) kb (show w.heap.size ≤ (w.heap.size + 1) by omega) (.slice A2 (M.length + 1) cc)
                have hz3 : (w2.setCell ⟨(w.heap.size + 1), 0, none⟩ (.slice A2 (M.length + 1) cc)).heap.size = w2.heap.size := by simp [World.setCell]
                rw [← hz3] at G2
                clear hz3 hz2
                generalize w2.setCell ⟨(w.heap.size + 1), 0, none⟩ (.slice A2 (M.length + 1) cc) = w3 at *
                refine hK.out _ _ trivial (fun hH => ?_)
                replace hHeld := hH
                clear hK K hH
                try simp only [ps]
                refine wpAnyH_done (by kernel_rfl) ?_ _
                have HZ := Lib.hid (rblk_lt P_m)
                rw [show (#[Value.slice A M.length c, Value.slice D2 T6.length dd].setIfInBounds 0 (.slice A2 (M.length + 1) cc)) = #[.slice A2 (M.length + 1) cc, .slice D2 T6.length dd] from rfl] at P_m
                have HX := Lib.hid (And.intro G2 (And.intro P_m (And.intro P_r kb)))
                clear G2 P_m P_r kb ex1 ex2 ey1 ey2
                go_wp2
                go_roundw
                case rel => exact ⟨j + 1, M ++ [⟨(ofO (ofQ (2 * ((j : Int) % 2) + 1) 2)), (ofO (ofQ (2 * ((j : Int) / 2) + 1) 2)), a1, a2⟩], T6, A2, D2, cc, dd, _, by omega, by go_num, by rw [dat_app, HD.out.1, sqP_succ]; rfl, HT.out, by rw [List.length_append]; exact HX.out.1, by have := HX.out.1.hh; have := HZ.out; omega, by rw [List.length_append]; exact HX.out.2.1, HX.out.2.2.1, HX.out.2.2.2⟩
                case measure => simp [intOf]; omega
        · rw [show (j : Int) = 4 by omega]
          obtain rfl : j = 4 := by omega
          have r0 := rblk_cell P_r 0
          have r1 := rblk_cell P_r 1
          have q0 := rblk_free P_r 0
          have q1 := rblk_free P_r 1
          have HX := Lib.hid (((G.put (g := w.heap.size) (i := 0) (by omega) (.slice A M.length c)).put (g := w.heap.size) (i := 1) (by omega) (.slice D T.length d)).made (B0 := w.heap.size) (m := mvOf (sqP 2 4) (sqT 2 4)) (by omega) (by rw [datM_of, hd, hT]) (w := w) (below_put (o := 1) (below_put (o := 0) kb (Nat.le_refl _) (.slice A M.length c)) (Nat.le_refl _) (.slice D T.length d)))
          have PZ := rblk_set (rblk_set P_r 0 (.slice A M.length c)) 1 (.slice D T.length d)
          have z0 := rblk_cell PZ 0
          have z1 := rblk_cell PZ 1
          have t0 := rblk_cell P_m 0
          have t1 := rblk_cell P_m 1
          clear hl hlT hd hT
          go_wp2
          exact bodyPost_ret (v := .agg #[.slice A M.length c, .slice D T.length d]) (by simp [results, Try.results6, go_sem, z0, z1]) rfl HX.out
set_option maxHeartbeats 16000000 in
theorem impl_square_3 (w : World) :
    Calls Try.prog 6 #[.int .i64 3] w (MadeMi w.heap.size (mvOf (sqP 3 9) (sqT 3 9)) w) := by
  have HP := Lib.hid (fun (j : Nat) W (h : j < 16) => impl_pointAt ((j : Int) % 4) ((j : Int) / 4) W (by omega) (by omega))
  have HQ := Lib.hid (fun (j : Nat) W (h : j < 9) => impl_halfP (2 * ((j : Int) % 3) + 1) (2 * ((j : Int) / 3) + 1) W (by omega) (by omega))
  have HA := Lib.hid (fun a b c d e W => impl_around a b c d e W)
  unfold MadeP at HP HQ
  unfold MadeTs at HA
  go_enter Try.func6, Try.ntmps6
  go_wp2_with fail
  have kb := ba2 w (.cells #[.slice none 0 0, .slice none 0 0] 25) (.cells #[.slice none 0 0, .slice none 0 0] 25)
  obtain ⟨P_r, P_m⟩ := blocks2 w (.cells #[.slice none 0 0, .slice none 0 0] 25) (.cells #[.slice none 0 0, .slice none 0 0] 25)
  have hs0 := rblk_lt P_m
  generalize (w.alloc (.cells #[.slice none 0 0, .slice none 0 0] 25)).alloc (.cells #[.slice none 0 0, .slice none 0 0] 25) = W1 at kb P_r P_m hs0 ⊢
  have G : Gm (w.heap.size + 2) W1.heap.size W1 [] [] (.slice none 0 0) (.slice none 0 0) := Gm.start (Nat.le_refl _)
  go_loopw [23] (fun i w' => ∃ (j : Nat) (M : List PV) (A : Option Addr) (c hi : Nat), j ≤ 16 ∧ i = .int .i64 (j : Int) ∧ dat M = sqG 3 j ∧ Gm (w.heap.size + 2) hi w' M [] (.slice A M.length c) (.slice none 0 0) ∧ w.heap.size + 2 ≤ hi ∧ w'.heap[w.heap.size + 1]? = some (.cells #[.slice A M.length c, .slice none 0 0] 25 (0, 0)) ∧ w'.heap[w.heap.size]? = some (.cells #[.slice none 0 0, .slice none 0 0] 25 (0, 0)) ∧ Below w.heap.size w w') (fun i _ => 16 - (intOf i).toNat)
  case atStart => exact ⟨0, [], none, 0, _, by omega, rfl, rfl, G, hs0, P_m, P_r, kb⟩
  case round =>
    obtain ⟨j, M, A, c, hi, hj, rfl, hd, G, hB, P_m, P_r, kb⟩ := hrel
    have hl : M.length = j := by have := congrArg List.length hd; simpa [dat, sqG] using this
    have HL : Hid (M.length ≤ 16) := Lib.hid (by omega)
    have HD := Lib.hid hd
    clear hd
    by_cases hlt : j < 16
    · have hi0 : (0 : Int) ≤ (j : Int) := by omega
      have hi1 : (j : Int) < 16 := by omega
      have HE := Lib.hid hl
      have e4 : (j : Int).tmod 4 = (j : Int) % 4 := Int.tmod_eq_emod_of_nonneg hi0
      have e7 : IntKind.i64.wrap ((j : Int) / 4) = (j : Int) / 4 := IntWalk.i64_in _ (by omega)
      clear hl
      go_wp2_with fail
      have hd0 : Below wr.heap.size wr wr.drew := (Below.refl _ _).drew
      replace P_m := rblk_below P_m hd0
      replace P_r := rblk_below P_r hd0
      replace G := G.below hd0
      replace kb := bt kb hd0
      clear hd0
      refine wp_region_held_drew (S := fun w' => True) (by kernel_rfl) trivial (fun hHeld => ?_)
      generalize wr.drew = Wd at *
      refine tk (i := 0) (v := ?vg9_1) rfl (by kernel_rfl) (fun _ _ _ h => h) (Or.inl ⟨by rfl, ?hg9_1⟩) hHeld ?_
      case hg9_1 => (intro w hSw; (try dsimp only at hSw); go_simp; (try with_reducible rfl))
      try simp only [ps]
      refine tk (i := 2) (v := ?vg9_2) rfl (by kernel_rfl) (fun _ _ _ h => h) (Or.inl ⟨by rfl, ?hg9_2⟩) hHeld ?_
      case hg9_2 => (intro w hSw; (try dsimp only at hSw); go_simp; (try with_reducible rfl))
      try simp only [ps]
      refine tk (i := 3) (v := ?vg9_3) rfl (by kernel_rfl) (fun _ _ _ h => h) (Or.inl ⟨by rfl, ?hg9_3⟩) hHeld ?_
      case hg9_3 => (intro w hSw; (try dsimp only at hSw); go_simp; (try with_reducible rfl))
      try simp only [ps]
      refine tk (i := 4) (v := ?vg9_4) rfl (by kernel_rfl) (fun _ _ _ h => h) (Or.inl ⟨by rfl, ?hg9_4⟩) hHeld ?_
      case hg9_4 => (intro w hSw; (try dsimp only at hSw); go_simp; (try with_reducible rfl))
      try simp only [ps]
      refine tk (i := 5) (v := ?vg9_5) rfl (by kernel_rfl) (fun _ _ _ h => h) (Or.inl ⟨by rfl, ?hg9_5⟩) hHeld ?_
      case hg9_5 => (intro w hSw; (try dsimp only at hSw); go_simp; (try with_reducible rfl))
      try simp only [ps]
      refine tk (i := 6) (v := ?vg9_6) rfl (by kernel_rfl) (fun _ _ _ h => h) (Or.inl ⟨by rfl, ?hg9_6⟩) hHeld ?_
      case hg9_6 => (intro w hSw; (try dsimp only at hSw); go_simp; (try with_reducible rfl))
      try simp only [ps]
      refine tk (i := 7) (v := ?vg9_7) rfl (by kernel_rfl) (fun _ _ _ h => h) (Or.inl ⟨by rfl, ?hg9_7⟩) hHeld ?_
      case hg9_7 => (intro w hSw; (try dsimp only at hSw); go_simp; (try with_reducible rfl))
      try simp only [ps]
      refine wpAnyH_ready (rs := [1, 8]) (by kernel_rfl) (by simp) ?_
      refine rc1 rfl (fun K hK => ?_) (rc1 rfl (fun K hK => ?_) AllReadyH.nil)
      · skip
        have t0 := rblk_cell P_m 0
        go_simp
        clear t0
        refine hK.out _ _ trivial (fun hH => ?_)
        replace hHeld := hH
        clear hK K hH
        try simp only [ps]
        refine rd1 (i := 8) (by kernel_rfl) rfl (fun K hK => ?_)
        have hz0 := G.hh
        go_simp
        (go_at_call 15; ((with_reducible refine (HP.out j _ hlt).mono ?_); rintro e Wc ⟨a1, a2, rfl, hcs, oq, apq, hb⟩))
        replace P_m := rblk_below P_m hb
        replace P_r := rblk_below P_r hb
        replace G := G.below hb
        replace kb := bt kb hb
        clear hb hcs
        refine hK.out _ _ trivial (fun hH => ?_)
        replace hHeld := hH
        clear hK K hH
        try simp only [ps]
        refine rd1 (i := 9) (by kernel_rfl) rfl (fun K hK => ?_)
        go_simp
        refine hK.out _ _ trivial (fun hH => ?_)
        replace hHeld := hH
        clear hK K hH
        try simp only [ps]
        refine rd1 (i := 10) (by kernel_rfl) rfl (fun K hK => ?_)
        refine wanted_op (by rfl) ?_
        refine grow_pt_op (.tmp 27) (.tmp 35) rfl G ⟨(rfi ((j : Int) % 4)), (rfi ((j : Int) / 4)), a1, a2⟩ rfl rfl (by have := HL.out; omega) (by omega) hz0 oq apq ?_
        intro A2 cc w2 G2 k2 _ _
        have hz2 := k2.size
        replace P_m := (k2.block _ (by omega)).trans P_m
        replace P_r := (k2.block _ (by omega)).trans P_r
        replace kb := kb.trans (k2.mono (by omega))
        clear G oq apq k2 hz0
        refine hK.out _ _ trivial (fun hH => ?_)
        replace hHeld := hH
        clear hK K hH
        try simp only [ps]
        refine tk (i := 11) (v := ?vg9_8) rfl (by kernel_rfl) (fun _ _ _ h => h) (Or.inl ⟨by rfl, ?hg9_8⟩) hHeld ?_
        case hg9_8 => (intro w hSw; (try dsimp only at hSw); go_simp; (try with_reducible rfl))
        try simp only [ps]
        refine rd1 (i := 12) (by kernel_rfl) rfl (fun K hK => ?_)
        have t0 := rblk_cell P_m 0
        have q0 := rblk_free P_m 0
        go_simp
        clear t0 q0
        replace P_r := rblk_other P_r 0 (.slice A2 (M.length + 1) cc) (show (w.heap.size + 1) ≠ w.heap.size by omega)
        replace P_m := rblk_set P_m 0 (.slice A2 (M.length + 1) cc)
        replace G2 := G2.put (g := (w.heap.size + 1)) (i := 0) (by omega) (.slice A2 (M.length + 1) cc)
        replace kb := below_put (o := 0) kb (show w.heap.size ≤ (w.heap.size + 1) by omega) (.slice A2 (M.length + 1) cc)
        have hz3 : (w2.setCell ⟨(w.heap.size + 1), 0, none⟩ (.slice A2 (M.length + 1) cc)).heap.size = w2.heap.size := by simp [World.setCell]
        rw [← hz3] at G2
        clear hz3 hz2
        generalize w2.setCell ⟨(w.heap.size + 1), 0, none⟩ (.slice A2 (M.length + 1) cc) = w3 at *
        refine hK.out _ _ trivial (fun hH => ?_)
        replace hHeld := hH
        clear hK K hH
        try simp only [ps]
        refine wpAnyH_done (by kernel_rfl) ?_ _
        rw [show (#[Value.slice A M.length c, Value.slice none 0 0].setIfInBounds 0 (.slice A2 (M.length + 1) cc)) = #[.slice A2 (M.length + 1) cc, .slice none 0 0] from rfl] at P_m
        have HX := Lib.hid (And.intro G2 (And.intro P_m (And.intro P_r kb)))
        clear G2 P_m P_r kb
        go_wp2
        go_roundw
        case rel => exact ⟨j + 1, M ++ [⟨(rfi ((j : Int) % 4)), (rfi ((j : Int) / 4)), a1, a2⟩], A2, cc, _, by omega, by go_num, by rw [dat_app, HD.out, sqG_succ]; rfl, by rw [List.length_append]; exact HX.out.1, by have := HX.out.1.hh; have := rblk_lt HX.out.2.1; omega, by rw [List.length_append]; exact HX.out.2.1, HX.out.2.2.1, HX.out.2.2.2⟩
        case measure => simp [intOf]; omega
      · skip
        have hz0 := G.hh
        go_simp
        (go_at_call 15; ((with_reducible refine (HP.out j _ hlt).mono ?_); rintro e Wc ⟨a1, a2, rfl, hcs, oq, apq, hb⟩))
        replace P_m := rblk_below P_m hb
        replace P_r := rblk_below P_r hb
        replace G := G.below hb
        replace kb := bt kb hb
        clear hb hcs
        refine hK.out _ _ trivial (fun hH => ?_)
        replace hHeld := hH
        clear hK K hH
        try simp only [ps]
        refine wpAnyH_ready (rs := [1, 9]) (by kernel_rfl) (by simp) ?_
        refine rc1 rfl (fun K hK => ?_) (rc1 rfl (fun K hK => ?_) AllReadyH.nil)
        · skip
          have t0 := rblk_cell P_m 0
          go_simp
          clear t0
          refine hK.out _ _ trivial (fun hH => ?_)
          replace hHeld := hH
          clear hK K hH
          try simp only [ps]
          refine rd1 (i := 9) (by kernel_rfl) rfl (fun K hK => ?_)
          go_simp
          refine hK.out _ _ trivial (fun hH => ?_)
          replace hHeld := hH
          clear hK K hH
          try simp only [ps]
          refine rd1 (i := 10) (by kernel_rfl) rfl (fun K hK => ?_)
          refine wanted_op (by rfl) ?_
          refine grow_pt_op (.tmp 27) (.tmp 35) rfl G ⟨(rfi ((j : Int) % 4)), (rfi ((j : Int) / 4)), a1, a2⟩ rfl rfl (by have := HL.out; omega) (by omega) hz0 oq apq ?_
          intro A2 cc w2 G2 k2 _ _
          have hz2 := k2.size
          replace P_m := (k2.block _ (by omega)).trans P_m
          replace P_r := (k2.block _ (by omega)).trans P_r
          replace kb := kb.trans (k2.mono (by omega))
          clear G oq apq k2 hz0
          refine hK.out _ _ trivial (fun hH => ?_)
          replace hHeld := hH
          clear hK K hH
          try simp only [ps]
          refine tk (i := 11) (v := ?vg9_9) rfl (by kernel_rfl) (fun _ _ _ h => h) (Or.inl ⟨by rfl, ?hg9_9⟩) hHeld ?_
          case hg9_9 => (intro w hSw; (try dsimp only at hSw); go_simp; (try with_reducible rfl))
          try simp only [ps]
          refine rd1 (i := 12) (by kernel_rfl) rfl (fun K hK => ?_)
          have t0 := rblk_cell P_m 0
          have q0 := rblk_free P_m 0
          go_simp
          clear t0 q0
          replace P_r := rblk_other P_r 0 (.slice A2 (M.length + 1) cc) (show (w.heap.size + 1) ≠ w.heap.size by omega)
          replace P_m := rblk_set P_m 0 (.slice A2 (M.length + 1) cc)
          replace G2 := G2.put (g := (w.heap.size + 1)) (i := 0) (by omega) (.slice A2 (M.length + 1) cc)
          replace kb := below_put (o := 0) kb (show w.heap.size ≤ (w.heap.size + 1) by omega) (.slice A2 (M.length + 1) cc)
          have hz3 : (w2.setCell ⟨(w.heap.size + 1), 0, none⟩ (.slice A2 (M.length + 1) cc)).heap.size = w2.heap.size := by simp [World.setCell]
          rw [← hz3] at G2
          clear hz3 hz2
          generalize w2.setCell ⟨(w.heap.size + 1), 0, none⟩ (.slice A2 (M.length + 1) cc) = w3 at *
          refine hK.out _ _ trivial (fun hH => ?_)
          replace hHeld := hH
          clear hK K hH
          try simp only [ps]
          refine wpAnyH_done (by kernel_rfl) ?_ _
          rw [show (#[Value.slice A M.length c, Value.slice none 0 0].setIfInBounds 0 (.slice A2 (M.length + 1) cc)) = #[.slice A2 (M.length + 1) cc, .slice none 0 0] from rfl] at P_m
          have HX := Lib.hid (And.intro G2 (And.intro P_m (And.intro P_r kb)))
          clear G2 P_m P_r kb
          go_wp2
          go_roundw
          case rel => exact ⟨j + 1, M ++ [⟨(rfi ((j : Int) % 4)), (rfi ((j : Int) / 4)), a1, a2⟩], A2, cc, _, by omega, by go_num, by rw [dat_app, HD.out, sqG_succ]; rfl, by rw [List.length_append]; exact HX.out.1, by have := HX.out.1.hh; have := rblk_lt HX.out.2.1; omega, by rw [List.length_append]; exact HX.out.2.1, HX.out.2.2.1, HX.out.2.2.2⟩
          case measure => simp [intOf]; omega
        · skip
          go_simp
          refine hK.out _ _ trivial (fun hH => ?_)
          replace hHeld := hH
          clear hK K hH
          try simp only [ps]
          refine rd1 (i := 1) (by kernel_rfl) rfl (fun K hK => ?_)
          have t0 := rblk_cell (rblk_below P_m (ba1 _ (.cells #[.bool (rfi ((j : Int) % 4)).p, .slice a1.A (rfi ((j : Int) % 4)).l.length a1.c, .slice a1.D (rfi ((j : Int) % 4)).m.length a1.d, .bool (rfi ((j : Int) / 4)).p, .slice a2.A (rfi ((j : Int) / 4)).l.length a2.c, .slice a2.D (rfi ((j : Int) / 4)).m.length a2.d] 39))) 0
          go_simp
          clear t0
          refine hK.out _ _ trivial (fun hH => ?_)
          replace hHeld := hH
          clear hK K hH
          try simp only [ps]
          refine rd1 (i := 10) (by kernel_rfl) rfl (fun K hK => ?_)
          refine wanted_op (by rfl) ?_
          refine grow_pt_op (.tmp 27) (.tmp 35) rfl G ⟨(rfi ((j : Int) % 4)), (rfi ((j : Int) / 4)), a1, a2⟩ rfl rfl (by have := HL.out; omega) (by omega) hz0 oq apq ?_
          intro A2 cc w2 G2 k2 _ _
          have hz2 := k2.size
          replace P_m := (k2.block _ (by omega)).trans P_m
          replace P_r := (k2.block _ (by omega)).trans P_r
          replace kb := kb.trans (k2.mono (by omega))
          clear G oq apq k2 hz0
          refine hK.out _ _ trivial (fun hH => ?_)
          replace hHeld := hH
          clear hK K hH
          try simp only [ps]
          refine tk (i := 11) (v := ?vg9_10) rfl (by kernel_rfl) (fun _ _ _ h => h) (Or.inl ⟨by rfl, ?hg9_10⟩) hHeld ?_
          case hg9_10 => (intro w hSw; (try dsimp only at hSw); go_simp; (try with_reducible rfl))
          try simp only [ps]
          refine rd1 (i := 12) (by kernel_rfl) rfl (fun K hK => ?_)
          have t0 := rblk_cell P_m 0
          have q0 := rblk_free P_m 0
          go_simp
          clear t0 q0
          replace P_r := rblk_other P_r 0 (.slice A2 (M.length + 1) cc) (show (w.heap.size + 1) ≠ w.heap.size by omega)
          replace P_m := rblk_set P_m 0 (.slice A2 (M.length + 1) cc)
          replace G2 := G2.put (g := (w.heap.size + 1)) (i := 0) (by omega) (.slice A2 (M.length + 1) cc)
          replace kb := below_put (o := 0) kb (show w.heap.size ≤ (w.heap.size + 1) by omega) (.slice A2 (M.length + 1) cc)
          have hz3 : (w2.setCell ⟨(w.heap.size + 1), 0, none⟩ (.slice A2 (M.length + 1) cc)).heap.size = w2.heap.size := by simp [World.setCell]
          rw [← hz3] at G2
          clear hz3 hz2
          generalize w2.setCell ⟨(w.heap.size + 1), 0, none⟩ (.slice A2 (M.length + 1) cc) = w3 at *
          refine hK.out _ _ trivial (fun hH => ?_)
          replace hHeld := hH
          clear hK K hH
          try simp only [ps]
          refine wpAnyH_done (by kernel_rfl) ?_ _
          rw [show (#[Value.slice A M.length c, Value.slice none 0 0].setIfInBounds 0 (.slice A2 (M.length + 1) cc)) = #[.slice A2 (M.length + 1) cc, .slice none 0 0] from rfl] at P_m
          have HX := Lib.hid (And.intro G2 (And.intro P_m (And.intro P_r kb)))
          clear G2 P_m P_r kb
          go_wp2
          go_roundw
          case rel => exact ⟨j + 1, M ++ [⟨(rfi ((j : Int) % 4)), (rfi ((j : Int) / 4)), a1, a2⟩], A2, cc, _, by omega, by go_num, by rw [dat_app, HD.out, sqG_succ]; rfl, by rw [List.length_append]; exact HX.out.1, by have := HX.out.1.hh; have := rblk_lt HX.out.2.1; omega, by rw [List.length_append]; exact HX.out.2.1, HX.out.2.2.1, HX.out.2.2.2⟩
          case measure => simp [intOf]; omega
    · rw [show (j : Int) = 16 by omega]
      obtain rfl : j = 16 := by omega
      have d0 : dat M = sqP 3 0 := by rw [HD.out]; simp [sqP]
      clear hl hlt HD HL
      go_wp2
      go_loopw [42] (fun i w' => ∃ (j : Nat) (M : List PV) (T : List TV) (A D : Option Addr) (c d hi : Nat), j ≤ 9 ∧ i = .int .i64 (j : Int) ∧ dat M = sqP 3 j ∧ T = sqT 3 j ∧ Gm (w.heap.size + 2) hi w' M T (.slice A M.length c) (.slice D T.length d) ∧ w.heap.size + 2 ≤ hi ∧ w'.heap[w.heap.size + 1]? = some (.cells #[.slice A M.length c, .slice D T.length d] 25 (0, 0)) ∧ w'.heap[w.heap.size]? = some (.cells #[.slice none 0 0, .slice none 0 0] 25 (0, 0)) ∧ Below w.heap.size w w') (fun i _ => 9 - (intOf i).toNat)
      case atStart => exact ⟨0, M, [], A, none, c, 0, hi, by omega, rfl, d0, rfl, G, hB, P_m, P_r, kb⟩
      case round =>
        clear d0 G hB P_m P_r kb
        obtain ⟨j, M, T, A, D, c, d, hi, hj, rfl, hd, hT, G, hB, P_m, P_r, kb⟩ := hrel
        have hl : M.length = 16 + j := by have := congrArg List.length hd; rw [sqP_len] at this; simpa [dat] using this
        have hlT : T.length = j * 4 := by rw [hT, sqT_len]
        have HL : Hid (M.length ≤ 25 ∧ T.length ≤ 36) := Lib.hid (by omega)
        have HD := Lib.hid (And.intro hd hT)
        by_cases hlt : j < 9
        · have hi0 : (0 : Int) ≤ (j : Int) := by omega
          have hi1 : (j : Int) < 9 := by omega
          have e4 : (j : Int).tmod 3 = ((j : Int) % 3) := by exact Int.tmod_eq_emod_of_nonneg hi0
          have e7 : IntKind.i64.wrap ((j : Int) / 3) = ((j : Int) / 3) := IntWalk.i64_in _ (by omega)
          have HE := Lib.hid (And.intro hl hlT)
          clear hl hlT hd hT
          go_wp2_with fail
          have hd0 : Below wr.heap.size wr wr.drew := (Below.refl _ _).drew
          replace P_m := rblk_below P_m hd0
          replace P_r := rblk_below P_r hd0
          replace G := G.below hd0
          replace kb := bt kb hd0
          clear hd0
          refine wp_region_held_drew (S := fun w' => True) (by kernel_rfl) trivial (fun hHeld => ?_)
          generalize wr.drew = Wd at *
          refine tk (i := 0) (v := ?vg10_1) rfl (by kernel_rfl) (fun _ _ _ h => h) (Or.inl ⟨by rfl, ?hg10_1⟩) hHeld ?_
          case hg10_1 => (intro w hSw; (try dsimp only at hSw); go_simp; (try with_reducible rfl))
          try simp only [ps]
          refine tk (i := 1) (v := ?vg10_2) rfl (by kernel_rfl) (fun _ _ _ h => h) (Or.inl ⟨by rfl, ?hg10_2⟩) hHeld ?_
          case hg10_2 => (intro w hSw; (try dsimp only at hSw); go_simp; (try with_reducible rfl))
          try simp only [ps]
          refine tk (i := 2) (v := ?vg10_3) rfl (by kernel_rfl) (fun _ _ _ h => h) (Or.inl ⟨by rfl, ?hg10_3⟩) hHeld ?_
          case hg10_3 => (intro w hSw; (try dsimp only at hSw); go_simp; (try with_reducible rfl))
          try simp only [ps]
          refine tk (i := 3) (v := ?vg10_4) rfl (by kernel_rfl) (fun _ _ _ h => h) (Or.inl ⟨by rfl, ?hg10_4⟩) hHeld ?_
          case hg10_4 => (intro w hSw; (try dsimp only at hSw); go_simp; (try with_reducible rfl))
          try simp only [ps]
          refine tk (i := 4) (v := ?vg10_5) rfl (by kernel_rfl) (fun _ _ _ h => h) (Or.inl ⟨by rfl, ?hg10_5⟩) hHeld ?_
          case hg10_5 => (intro w hSw; (try dsimp only at hSw); go_simp; (try with_reducible rfl))
          try simp only [ps]
          refine tk (i := 5) (v := ?vg10_6) rfl (by kernel_rfl) (fun _ _ _ h => h) (Or.inl ⟨by rfl, ?hg10_6⟩) hHeld ?_
          case hg10_6 => (intro w hSw; (try dsimp only at hSw); go_simp; (try with_reducible rfl))
          try simp only [ps]
          refine tk (i := 6) (v := ?vg10_7) rfl (by kernel_rfl) (fun _ _ _ h => h) (Or.inl ⟨by rfl, ?hg10_7⟩) hHeld ?_
          case hg10_7 => (intro w hSw; (try dsimp only at hSw); go_simp; (try with_reducible rfl))
          try simp only [ps]
          refine tk (i := 7) (v := ?vg10_8) rfl (by kernel_rfl) (fun _ _ _ h => h) (Or.inl ⟨by rfl, ?hg10_8⟩) hHeld ?_
          case hg10_8 => (intro w hSw; (try dsimp only at hSw); go_simp; (try with_reducible rfl))
          try simp only [ps]
          refine wpAnyH_done (by kernel_rfl) ?_ _
          clear hHeld e4 e7
          have P_x := heap_alloc_new Wd (.cells #[.int .i64 ((j : Int) / 3 * 4 + (j : Int) % 3), .int .i64 (((j : Int) / 3 * 4 + (j : Int) % 3) + 1), .int .i64 (((j : Int) / 3 * 4 + (j : Int) % 3) + 4 + 1), .int .i64 (((j : Int) / 3 * 4 + (j : Int) % 3) + 4)] 44)
          have hb := ba1 Wd (.cells #[.int .i64 ((j : Int) / 3 * 4 + (j : Int) % 3), .int .i64 (((j : Int) / 3 * 4 + (j : Int) % 3) + 1), .int .i64 (((j : Int) / 3 * 4 + (j : Int) % 3) + 4 + 1), .int .i64 (((j : Int) / 3 * 4 + (j : Int) % 3) + 4)] 44)
          have hgm := rblk_lt P_m
          have hgh := G.hh
          replace P_m := rblk_below P_m hb
          replace P_r := rblk_below P_r hb
          replace G := G.below hb
          replace kb := bt kb hb
          clear hb
          go_wp2_with fail
          generalize Wd.alloc _ = W2 at *
          generalize Wd.heap.size = gx at *
          go_cut [] (fun wx => ∃ (D2 : Option Addr) (dd hi2 : Nat), Gm (w.heap.size + 2) hi2 wx M (T ++ quadT (M.length : Int) (((j : Int) / 3 * 4 + (j : Int) % 3)) ((((j : Int) / 3 * 4 + (j : Int) % 3) + 1)) ((((j : Int) / 3 * 4 + (j : Int) % 3) + 4 + 1)) ((((j : Int) / 3 * 4 + (j : Int) % 3) + 4))) (.slice A M.length c) (.slice D2 (T ++ quadT (M.length : Int) (((j : Int) / 3 * 4 + (j : Int) % 3)) ((((j : Int) / 3 * 4 + (j : Int) % 3) + 1)) ((((j : Int) / 3 * 4 + (j : Int) % 3) + 4 + 1)) ((((j : Int) / 3 * 4 + (j : Int) % 3) + 4))).length dd) ∧ w.heap.size + 2 ≤ hi2 ∧ wx.heap[w.heap.size + 1]? = some (.cells #[.slice A M.length c, .slice D2 (T ++ quadT (M.length : Int) (((j : Int) / 3 * 4 + (j : Int) % 3)) ((((j : Int) / 3 * 4 + (j : Int) % 3) + 1)) ((((j : Int) / 3 * 4 + (j : Int) % 3) + 4 + 1)) ((((j : Int) / 3 * 4 + (j : Int) % 3) + 4))).length dd] 25 (0, 0)) ∧ wx.heap[w.heap.size]? = some (.cells #[.slice none 0 0, .slice none 0 0] 25 (0, 0)) ∧ Below w.heap.size w wx)
          case first =>
            have hd0 : Below W2.heap.size W2 W2.drew := (Below.refl _ _).drew
            replace P_x := rblk_below P_x hd0
            replace P_m := rblk_below P_m hd0
            replace P_r := rblk_below P_r hd0
            replace G := G.below hd0
            replace kb := bt kb hd0
            clear hd0
            refine wp_region_held_drew (S := fun w' => w'.heap[gx]? = some (.cells #[.int .i64 ((j : Int) / 3 * 4 + (j : Int) % 3), .int .i64 (((j : Int) / 3 * 4 + (j : Int) % 3) + 1), .int .i64 (((j : Int) / 3 * 4 + (j : Int) % 3) + 4 + 1), .int .i64 (((j : Int) / 3 * 4 + (j : Int) % 3) + 4)] 44 (0, 0))) (by kernel_rfl) P_x (fun hHeld => ?_)
            generalize W2.drew = Wd2 at *
            refine tk (i := 0) (v := ?vg11_1) rfl (by kernel_rfl) (fun _ _ _ h => h) (Or.inl ⟨by rfl, ?hg11_1⟩) hHeld ?_
            case hg11_1 => (intro w hSw; (try dsimp only at hSw); go_simp; (try with_reducible rfl))
            try simp only [ps]
            refine tk (i := 2) (v := ?vg11_2) rfl (by kernel_rfl) (fun _ _ _ h => h) (Or.inl ⟨by rfl, ?hg11_2⟩) hHeld ?_
            case hg11_2 => (intro w hSw; (try dsimp only at hSw); go_simp; (try with_reducible rfl))
            try simp only [ps]
            refine tk (i := 5) (v := ?vg11_3) rfl (by kernel_rfl) (fun _ _ _ h => h) (Or.inl ⟨by rfl, ?hg11_3⟩) hHeld ?_
            case hg11_3 => (intro w hSw; (try dsimp only at hSw); have s0 := rblk_cell hSw 0; have s1 := rblk_cell hSw 1; have s2 := rblk_cell hSw 2; have s3 := rblk_cell hSw 3; go_simp; (try with_reducible rfl))
            try simp only [ps]
            refine wpAnyH_ready (rs := [1, 3]) (by kernel_rfl) (by simp) ?_
            refine rc1 rfl (fun K hK => ?_) (rc1 rfl (fun K hK => ?_) AllReadyH.nil)
            · skip
              have t0 := rblk_cell P_m 1
              go_simp
              clear t0
              refine hK.out _ _ P_x (fun hH => ?_)
              replace hHeld := hH
              clear hK K hH
              try simp only [ps]
              refine rd1 (i := 3) (by kernel_rfl) rfl (fun K hK => ?_)
              have t0 := rblk_cell P_m 0
              go_simp
              clear t0
              refine hK.out _ _ P_x (fun hH => ?_)
              replace hHeld := hH
              clear hK K hH
              try simp only [ps]
              refine tk (i := 4) (v := ?vg11_4) rfl (by kernel_rfl) (fun _ _ _ h => h) (Or.inl ⟨by rfl, ?hg11_4⟩) hHeld ?_
              case hg11_4 => (intro w hSw; (try dsimp only at hSw); go_simp; (try with_reducible rfl))
              try simp only [ps]
              refine rd1 (i := 6) (by kernel_rfl) rfl (fun K hK => ?_)
              go_simp
              (go_at_call 16; ((with_reducible refine (HA.out _ _ _ _ _ _).mono ?_); rintro e Wc ⟨gt, ct, rfl, oT, hb⟩))
              replace P_x := rblk_below P_x hb
              replace P_m := rblk_below P_m hb
              replace P_r := rblk_below P_r hb
              replace G := G.below hb
              replace kb := bt kb hb
              clear hb
              refine hK.out _ _ P_x (fun hH => ?_)
              replace hHeld := hH
              clear hK K hH
              try simp only [ps]
              refine rd1 (i := 7) (by kernel_rfl) rfl (fun K hK => ?_)
              refine wanted_op (by rfl) ?_
              refine grow_tri_op (.tmp 68) (.tmp 73) rfl G (quadT (M.length : Int) (((j : Int) / 3 * 4 + (j : Int) % 3)) ((((j : Int) / 3 * 4 + (j : Int) % 3) + 1)) ((((j : Int) / 3 * 4 + (j : Int) % 3) + 4 + 1)) ((((j : Int) / 3 * 4 + (j : Int) % 3) + 4))) ⟨gt, 0, none⟩ ct rfl rfl (owns_cells oT rfl) (by have := HL.out; simp only [quadT, List.length_cons, List.length_nil]; omega) (by omega) ?_
              intro D2 dd w5 G5 k5 t5 _
              replace P_x := t5.blk P_x (.inr hgh)
              have hz5 := k5.size
              replace P_m := (k5.block _ (by omega)).trans P_m
              replace P_r := (k5.block _ (by omega)).trans P_r
              replace kb := kb.trans (k5.mono (by omega))
              clear G oT k5 t5
              refine hK.out _ _ P_x (fun hH => ?_)
              replace hHeld := hH
              clear hK K hH
              try simp only [ps]
              refine tk (i := 8) (v := ?vg11_5) rfl (by kernel_rfl) (fun _ _ _ h => h) (Or.inl ⟨by rfl, ?hg11_5⟩) hHeld ?_
              case hg11_5 => (intro w hSw; (try dsimp only at hSw); go_simp; (try with_reducible rfl))
              try simp only [ps]
              refine rd1 (i := 9) (by kernel_rfl) rfl (fun K hK => ?_)
              have t0 := rblk_cell P_m 1
              have q0 := rblk_free P_m 1
              go_simp
              clear t0 q0
              replace P_r := rblk_other P_r 1 (.slice D2 (T.length + (quadT (M.length : Int) (((j : Int) / 3 * 4 + (j : Int) % 3)) ((((j : Int) / 3 * 4 + (j : Int) % 3) + 1)) ((((j : Int) / 3 * 4 + (j : Int) % 3) + 4 + 1)) ((((j : Int) / 3 * 4 + (j : Int) % 3) + 4))).length) dd) (show (w.heap.size + 1) ≠ w.heap.size by omega)
              replace P_x := rblk_other P_x 1 (.slice D2 (T.length + (quadT (M.length : Int) (((j : Int) / 3 * 4 + (j : Int) % 3)) ((((j : Int) / 3 * 4 + (j : Int) % 3) + 1)) ((((j : Int) / 3 * 4 + (j : Int) % 3) + 4 + 1)) ((((j : Int) / 3 * 4 + (j : Int) % 3) + 4))).length) dd) (show (w.heap.size + 1) ≠ gx by omega)
              replace P_m := rblk_set P_m 1 (.slice D2 (T.length + (quadT (M.length : Int) (((j : Int) / 3 * 4 + (j : Int) % 3)) ((((j : Int) / 3 * 4 + (j : Int) % 3) + 1)) ((((j : Int) / 3 * 4 + (j : Int) % 3) + 4 + 1)) ((((j : Int) / 3 * 4 + (j : Int) % 3) + 4))).length) dd)
              replace G5 := G5.put (g := (w.heap.size + 1)) (i := 1) (by omega) (.slice D2 (T.length + (quadT (M.length : Int) (((j : Int) / 3 * 4 + (j : Int) % 3)) ((((j : Int) / 3 * 4 + (j : Int) % 3) + 1)) ((((j : Int) / 3 * 4 + (j : Int) % 3) + 4 + 1)) ((((j : Int) / 3 * 4 + (j : Int) % 3) + 4))).length) dd)
              replace kb := below_put (o := 1) kb (show w.heap.size ≤ (w.heap.size + 1) by omega) (.slice D2 (T.length + (quadT (M.length : Int) (((j : Int) / 3 * 4 + (j : Int) % 3)) ((((j : Int) / 3 * 4 + (j : Int) % 3) + 1)) ((((j : Int) / 3 * 4 + (j : Int) % 3) + 4 + 1)) ((((j : Int) / 3 * 4 + (j : Int) % 3) + 4))).length) dd)
              have hz3 : (w5.setCell ⟨(w.heap.size + 1), 1, none⟩ (.slice D2 (T.length + (quadT (M.length : Int) (((j : Int) / 3 * 4 + (j : Int) % 3)) ((((j : Int) / 3 * 4 + (j : Int) % 3) + 1)) ((((j : Int) / 3 * 4 + (j : Int) % 3) + 4 + 1)) ((((j : Int) / 3 * 4 + (j : Int) % 3) + 4))).length) dd)).heap.size = w5.heap.size := by simp [World.setCell]
              rw [← hz3] at G5
              clear hz3 hz5
              generalize w5.setCell ⟨(w.heap.size + 1), 1, none⟩ (.slice D2 (T.length + (quadT (M.length : Int) (((j : Int) / 3 * 4 + (j : Int) % 3)) ((((j : Int) / 3 * 4 + (j : Int) % 3) + 1)) ((((j : Int) / 3 * 4 + (j : Int) % 3) + 4 + 1)) ((((j : Int) / 3 * 4 + (j : Int) % 3) + 4))).length) dd) = w6 at *
              refine hK.out _ _ P_x (fun hH => ?_)
              replace hHeld := hH
              clear hK K hH
              try simp only [ps]
              refine wpAnyH_done (by kernel_rfl) ?_ _
              have hz6 := rblk_lt P_x
              have hB6 : w.heap.size + 2 ≤ w6.heap.size := by omega
              rw [show (#[Value.slice A M.length c, Value.slice D T.length d].setIfInBounds 1 (.slice D2 (T.length + (quadT (M.length : Int) (((j : Int) / 3 * 4 + (j : Int) % 3)) ((((j : Int) / 3 * 4 + (j : Int) % 3) + 1)) ((((j : Int) / 3 * 4 + (j : Int) % 3) + 4 + 1)) ((((j : Int) / 3 * 4 + (j : Int) % 3) + 4))).length) dd)) = #[.slice A M.length c, .slice D2 (T.length + (quadT (M.length : Int) (((j : Int) / 3 * 4 + (j : Int) % 3)) ((((j : Int) / 3 * 4 + (j : Int) % 3) + 1)) ((((j : Int) / 3 * 4 + (j : Int) % 3) + 4 + 1)) ((((j : Int) / 3 * 4 + (j : Int) % 3) + 4))).length) dd] from rfl] at P_m
              have HN : (T ++ quadT (M.length : Int) (((j : Int) / 3 * 4 + (j : Int) % 3)) ((((j : Int) / 3 * 4 + (j : Int) % 3) + 1)) ((((j : Int) / 3 * 4 + (j : Int) % 3) + 4 + 1)) ((((j : Int) / 3 * 4 + (j : Int) % 3) + 4))).length = T.length + (quadT (M.length : Int) (((j : Int) / 3 * 4 + (j : Int) % 3)) ((((j : Int) / 3 * 4 + (j : Int) % 3) + 1)) ((((j : Int) / 3 * 4 + (j : Int) % 3) + 4 + 1)) ((((j : Int) / 3 * 4 + (j : Int) % 3) + 4))).length := List.length_append
              rw [← HN] at P_m G5
              have HX := Lib.hid (And.intro G5 (And.intro hB6 (And.intro P_m (And.intro P_r kb))))
              clear G5 P_m P_r kb P_x hHeld HN hz6 hB6 hgm hgh
              go_wp2_with fail
              go_meet
              exact ⟨_, _, _, HX.out⟩
            · skip
              have t0 := rblk_cell P_m 0
              go_simp
              clear t0
              refine hK.out _ _ P_x (fun hH => ?_)
              replace hHeld := hH
              clear hK K hH
              try simp only [ps]
              refine tk (i := 4) (v := ?vg11_6) rfl (by kernel_rfl) (fun _ _ _ h => h) (Or.inl ⟨by rfl, ?hg11_6⟩) hHeld ?_
              case hg11_6 => (intro w hSw; (try dsimp only at hSw); go_simp; (try with_reducible rfl))
              try simp only [ps]
              refine wpAnyH_ready (rs := [1, 6]) (by kernel_rfl) (by simp) ?_
              refine rc1 rfl (fun K hK => ?_) (rc1 rfl (fun K hK => ?_) AllReadyH.nil)
              · skip
                have t0 := rblk_cell P_m 1
                go_simp
                clear t0
                refine hK.out _ _ P_x (fun hH => ?_)
                replace hHeld := hH
                clear hK K hH
                try simp only [ps]
                refine rd1 (i := 6) (by kernel_rfl) rfl (fun K hK => ?_)
                go_simp
                (go_at_call 16; ((with_reducible refine (HA.out _ _ _ _ _ _).mono ?_); rintro e Wc ⟨gt, ct, rfl, oT, hb⟩))
                replace P_x := rblk_below P_x hb
                replace P_m := rblk_below P_m hb
                replace P_r := rblk_below P_r hb
                replace G := G.below hb
                replace kb := bt kb hb
                clear hb
                refine hK.out _ _ P_x (fun hH => ?_)
                replace hHeld := hH
                clear hK K hH
                try simp only [ps]
                refine rd1 (i := 7) (by kernel_rfl) rfl (fun K hK => ?_)
                refine wanted_op (by rfl) ?_
                refine grow_tri_op (.tmp 68) (.tmp 73) rfl G (quadT (M.length : Int) (((j : Int) / 3 * 4 + (j : Int) % 3)) ((((j : Int) / 3 * 4 + (j : Int) % 3) + 1)) ((((j : Int) / 3 * 4 + (j : Int) % 3) + 4 + 1)) ((((j : Int) / 3 * 4 + (j : Int) % 3) + 4))) ⟨gt, 0, none⟩ ct rfl rfl (owns_cells oT rfl) (by have := HL.out; simp only [quadT, List.length_cons, List.length_nil]; omega) (by omega) ?_
                intro D2 dd w5 G5 k5 t5 _
                replace P_x := t5.blk P_x (.inr hgh)
                have hz5 := k5.size
                replace P_m := (k5.block _ (by omega)).trans P_m
                replace P_r := (k5.block _ (by omega)).trans P_r
                replace kb := kb.trans (k5.mono (by omega))
                clear G oT k5 t5
                refine hK.out _ _ P_x (fun hH => ?_)
                replace hHeld := hH
                clear hK K hH
                try simp only [ps]
                refine tk (i := 8) (v := ?vg11_7) rfl (by kernel_rfl) (fun _ _ _ h => h) (Or.inl ⟨by rfl, ?hg11_7⟩) hHeld ?_
                case hg11_7 => (intro w hSw; (try dsimp only at hSw); go_simp; (try with_reducible rfl))
                try simp only [ps]
                refine rd1 (i := 9) (by kernel_rfl) rfl (fun K hK => ?_)
                have t0 := rblk_cell P_m 1
                have q0 := rblk_free P_m 1
                go_simp
                clear t0 q0
                replace P_r := rblk_other P_r 1 (.slice D2 (T.length + (quadT (M.length : Int) (((j : Int) / 3 * 4 + (j : Int) % 3)) ((((j : Int) / 3 * 4 + (j : Int) % 3) + 1)) ((((j : Int) / 3 * 4 + (j : Int) % 3) + 4 + 1)) ((((j : Int) / 3 * 4 + (j : Int) % 3) + 4))).length) dd) (show (w.heap.size + 1) ≠ w.heap.size by omega)
                replace P_x := rblk_other P_x 1 (.slice D2 (T.length + (quadT (M.length : Int) (((j : Int) / 3 * 4 + (j : Int) % 3)) ((((j : Int) / 3 * 4 + (j : Int) % 3) + 1)) ((((j : Int) / 3 * 4 + (j : Int) % 3) + 4 + 1)) ((((j : Int) / 3 * 4 + (j : Int) % 3) + 4))).length) dd) (show (w.heap.size + 1) ≠ gx by omega)
                replace P_m := rblk_set P_m 1 (.slice D2 (T.length + (quadT (M.length : Int) (((j : Int) / 3 * 4 + (j : Int) % 3)) ((((j : Int) / 3 * 4 + (j : Int) % 3) + 1)) ((((j : Int) / 3 * 4 + (j : Int) % 3) + 4 + 1)) ((((j : Int) / 3 * 4 + (j : Int) % 3) + 4))).length) dd)
                replace G5 := G5.put (g := (w.heap.size + 1)) (i := 1) (by omega) (.slice D2 (T.length + (quadT (M.length : Int) (((j : Int) / 3 * 4 + (j : Int) % 3)) ((((j : Int) / 3 * 4 + (j : Int) % 3) + 1)) ((((j : Int) / 3 * 4 + (j : Int) % 3) + 4 + 1)) ((((j : Int) / 3 * 4 + (j : Int) % 3) + 4))).length) dd)
                replace kb := below_put (o := 1) kb (show w.heap.size ≤ (w.heap.size + 1) by omega) (.slice D2 (T.length + (quadT (M.length : Int) (((j : Int) / 3 * 4 + (j : Int) % 3)) ((((j : Int) / 3 * 4 + (j : Int) % 3) + 1)) ((((j : Int) / 3 * 4 + (j : Int) % 3) + 4 + 1)) ((((j : Int) / 3 * 4 + (j : Int) % 3) + 4))).length) dd)
                have hz3 : (w5.setCell ⟨(w.heap.size + 1), 1, none⟩ (.slice D2 (T.length + (quadT (M.length : Int) (((j : Int) / 3 * 4 + (j : Int) % 3)) ((((j : Int) / 3 * 4 + (j : Int) % 3) + 1)) ((((j : Int) / 3 * 4 + (j : Int) % 3) + 4 + 1)) ((((j : Int) / 3 * 4 + (j : Int) % 3) + 4))).length) dd)).heap.size = w5.heap.size := by simp [World.setCell]
                rw [← hz3] at G5
                clear hz3 hz5
                generalize w5.setCell ⟨(w.heap.size + 1), 1, none⟩ (.slice D2 (T.length + (quadT (M.length : Int) (((j : Int) / 3 * 4 + (j : Int) % 3)) ((((j : Int) / 3 * 4 + (j : Int) % 3) + 1)) ((((j : Int) / 3 * 4 + (j : Int) % 3) + 4 + 1)) ((((j : Int) / 3 * 4 + (j : Int) % 3) + 4))).length) dd) = w6 at *
                refine hK.out _ _ P_x (fun hH => ?_)
                replace hHeld := hH
                clear hK K hH
                try simp only [ps]
                refine wpAnyH_done (by kernel_rfl) ?_ _
                have hz6 := rblk_lt P_x
                have hB6 : w.heap.size + 2 ≤ w6.heap.size := by omega
                rw [show (#[Value.slice A M.length c, Value.slice D T.length d].setIfInBounds 1 (.slice D2 (T.length + (quadT (M.length : Int) (((j : Int) / 3 * 4 + (j : Int) % 3)) ((((j : Int) / 3 * 4 + (j : Int) % 3) + 1)) ((((j : Int) / 3 * 4 + (j : Int) % 3) + 4 + 1)) ((((j : Int) / 3 * 4 + (j : Int) % 3) + 4))).length) dd)) = #[.slice A M.length c, .slice D2 (T.length + (quadT (M.length : Int) (((j : Int) / 3 * 4 + (j : Int) % 3)) ((((j : Int) / 3 * 4 + (j : Int) % 3) + 1)) ((((j : Int) / 3 * 4 + (j : Int) % 3) + 4 + 1)) ((((j : Int) / 3 * 4 + (j : Int) % 3) + 4))).length) dd] from rfl] at P_m
                have HN : (T ++ quadT (M.length : Int) (((j : Int) / 3 * 4 + (j : Int) % 3)) ((((j : Int) / 3 * 4 + (j : Int) % 3) + 1)) ((((j : Int) / 3 * 4 + (j : Int) % 3) + 4 + 1)) ((((j : Int) / 3 * 4 + (j : Int) % 3) + 4))).length = T.length + (quadT (M.length : Int) (((j : Int) / 3 * 4 + (j : Int) % 3)) ((((j : Int) / 3 * 4 + (j : Int) % 3) + 1)) ((((j : Int) / 3 * 4 + (j : Int) % 3) + 4 + 1)) ((((j : Int) / 3 * 4 + (j : Int) % 3) + 4))).length := List.length_append
                rw [← HN] at P_m G5
                have HX := Lib.hid (And.intro G5 (And.intro hB6 (And.intro P_m (And.intro P_r kb))))
                clear G5 P_m P_r kb P_x hHeld HN hz6 hB6 hgm hgh
                go_wp2_with fail
                go_meet
                exact ⟨_, _, _, HX.out⟩
              · skip
                go_simp
                (go_at_call 16; ((with_reducible refine (HA.out _ _ _ _ _ _).mono ?_); rintro e Wc ⟨gt, ct, rfl, oT, hb⟩))
                replace P_x := rblk_below P_x hb
                replace P_m := rblk_below P_m hb
                replace P_r := rblk_below P_r hb
                replace G := G.below hb
                replace kb := bt kb hb
                clear hb
                refine hK.out _ _ P_x (fun hH => ?_)
                replace hHeld := hH
                clear hK K hH
                try simp only [ps]
                refine rd1 (i := 1) (by kernel_rfl) rfl (fun K hK => ?_)
                have t0 := rblk_cell P_m 1
                go_simp
                clear t0
                refine hK.out _ _ P_x (fun hH => ?_)
                replace hHeld := hH
                clear hK K hH
                try simp only [ps]
                refine rd1 (i := 7) (by kernel_rfl) rfl (fun K hK => ?_)
                refine wanted_op (by rfl) ?_
                refine grow_tri_op (.tmp 68) (.tmp 73) rfl G (quadT (M.length : Int) (((j : Int) / 3 * 4 + (j : Int) % 3)) ((((j : Int) / 3 * 4 + (j : Int) % 3) + 1)) ((((j : Int) / 3 * 4 + (j : Int) % 3) + 4 + 1)) ((((j : Int) / 3 * 4 + (j : Int) % 3) + 4))) ⟨gt, 0, none⟩ ct rfl rfl (owns_cells oT rfl) (by have := HL.out; simp only [quadT, List.length_cons, List.length_nil]; omega) (by omega) ?_
                intro D2 dd w5 G5 k5 t5 _
                replace P_x := t5.blk P_x (.inr hgh)
                have hz5 := k5.size
                replace P_m := (k5.block _ (by omega)).trans P_m
                replace P_r := (k5.block _ (by omega)).trans P_r
                replace kb := kb.trans (k5.mono (by omega))
                clear G oT k5 t5
                refine hK.out _ _ P_x (fun hH => ?_)
                replace hHeld := hH
                clear hK K hH
                try simp only [ps]
                refine tk (i := 8) (v := ?vg11_8) rfl (by kernel_rfl) (fun _ _ _ h => h) (Or.inl ⟨by rfl, ?hg11_8⟩) hHeld ?_
                case hg11_8 => (intro w hSw; (try dsimp only at hSw); go_simp; (try with_reducible rfl))
                try simp only [ps]
                refine rd1 (i := 9) (by kernel_rfl) rfl (fun K hK => ?_)
                have t0 := rblk_cell P_m 1
                have q0 := rblk_free P_m 1
                go_simp
                clear t0 q0
                replace P_r := rblk_other P_r 1 (.slice D2 (T.length + (quadT (M.length : Int) (((j : Int) / 3 * 4 + (j : Int) % 3)) ((((j : Int) / 3 * 4 + (j : Int) % 3) + 1)) ((((j : Int) / 3 * 4 + (j : Int) % 3) + 4 + 1)) ((((j : Int) / 3 * 4 + (j : Int) % 3) + 4))).length) dd) (show (w.heap.size + 1) ≠ w.heap.size by omega)
                replace P_x := rblk_other P_x 1 (.slice D2 (T.length + (quadT (M.length : Int) (((j : Int) / 3 * 4 + (j : Int) % 3)) ((((j : Int) / 3 * 4 + (j : Int) % 3) + 1)) ((((j : Int) / 3 * 4 + (j : Int) % 3) + 4 + 1)) ((((j : Int) / 3 * 4 + (j : Int) % 3) + 4))).length) dd) (show (w.heap.size + 1) ≠ gx by omega)
                replace P_m := rblk_set P_m 1 (.slice D2 (T.length + (quadT (M.length : Int) (((j : Int) / 3 * 4 + (j : Int) % 3)) ((((j : Int) / 3 * 4 + (j : Int) % 3) + 1)) ((((j : Int) / 3 * 4 + (j : Int) % 3) + 4 + 1)) ((((j : Int) / 3 * 4 + (j : Int) % 3) + 4))).length) dd)
                replace G5 := G5.put (g := (w.heap.size + 1)) (i := 1) (by omega) (.slice D2 (T.length + (quadT (M.length : Int) (((j : Int) / 3 * 4 + (j : Int) % 3)) ((((j : Int) / 3 * 4 + (j : Int) % 3) + 1)) ((((j : Int) / 3 * 4 + (j : Int) % 3) + 4 + 1)) ((((j : Int) / 3 * 4 + (j : Int) % 3) + 4))).length) dd)
                replace kb := below_put (o := 1) kb (show w.heap.size ≤ (w.heap.size + 1) by omega) (.slice D2 (T.length + (quadT (M.length : Int) (((j : Int) / 3 * 4 + (j : Int) % 3)) ((((j : Int) / 3 * 4 + (j : Int) % 3) + 1)) ((((j : Int) / 3 * 4 + (j : Int) % 3) + 4 + 1)) ((((j : Int) / 3 * 4 + (j : Int) % 3) + 4))).length) dd)
                have hz3 : (w5.setCell ⟨(w.heap.size + 1), 1, none⟩ (.slice D2 (T.length + (quadT (M.length : Int) (((j : Int) / 3 * 4 + (j : Int) % 3)) ((((j : Int) / 3 * 4 + (j : Int) % 3) + 1)) ((((j : Int) / 3 * 4 + (j : Int) % 3) + 4 + 1)) ((((j : Int) / 3 * 4 + (j : Int) % 3) + 4))).length) dd)).heap.size = w5.heap.size := by simp [World.setCell]
                rw [← hz3] at G5
                clear hz3 hz5
                generalize w5.setCell ⟨(w.heap.size + 1), 1, none⟩ (.slice D2 (T.length + (quadT (M.length : Int) (((j : Int) / 3 * 4 + (j : Int) % 3)) ((((j : Int) / 3 * 4 + (j : Int) % 3) + 1)) ((((j : Int) / 3 * 4 + (j : Int) % 3) + 4 + 1)) ((((j : Int) / 3 * 4 + (j : Int) % 3) + 4))).length) dd) = w6 at *
                refine hK.out _ _ P_x (fun hH => ?_)
                replace hHeld := hH
                clear hK K hH
                try simp only [ps]
                refine wpAnyH_done (by kernel_rfl) ?_ _
                have hz6 := rblk_lt P_x
                have hB6 : w.heap.size + 2 ≤ w6.heap.size := by omega
                rw [show (#[Value.slice A M.length c, Value.slice D T.length d].setIfInBounds 1 (.slice D2 (T.length + (quadT (M.length : Int) (((j : Int) / 3 * 4 + (j : Int) % 3)) ((((j : Int) / 3 * 4 + (j : Int) % 3) + 1)) ((((j : Int) / 3 * 4 + (j : Int) % 3) + 4 + 1)) ((((j : Int) / 3 * 4 + (j : Int) % 3) + 4))).length) dd)) = #[.slice A M.length c, .slice D2 (T.length + (quadT (M.length : Int) (((j : Int) / 3 * 4 + (j : Int) % 3)) ((((j : Int) / 3 * 4 + (j : Int) % 3) + 1)) ((((j : Int) / 3 * 4 + (j : Int) % 3) + 4 + 1)) ((((j : Int) / 3 * 4 + (j : Int) % 3) + 4))).length) dd] from rfl] at P_m
                have HN : (T ++ quadT (M.length : Int) (((j : Int) / 3 * 4 + (j : Int) % 3)) ((((j : Int) / 3 * 4 + (j : Int) % 3) + 1)) ((((j : Int) / 3 * 4 + (j : Int) % 3) + 4 + 1)) ((((j : Int) / 3 * 4 + (j : Int) % 3) + 4))).length = T.length + (quadT (M.length : Int) (((j : Int) / 3 * 4 + (j : Int) % 3)) ((((j : Int) / 3 * 4 + (j : Int) % 3) + 1)) ((((j : Int) / 3 * 4 + (j : Int) % 3) + 4 + 1)) ((((j : Int) / 3 * 4 + (j : Int) % 3) + 4))).length := List.length_append
                rw [← HN] at P_m G5
                have HX := Lib.hid (And.intro G5 (And.intro hB6 (And.intro P_m (And.intro P_r kb))))
                clear G5 P_m P_r kb P_x hHeld HN hz6 hB6 hgm hgh
                go_wp2_with fail
                go_meet
                exact ⟨_, _, _, HX.out⟩
          case rest =>
            clear G P_m P_r kb P_x hB hgm hgh
            obtain ⟨D2, dd, hi2, G, hB, P_m, P_r, kb⟩ := hcut
            have HT : Hid (T ++ quadT (M.length : Int) (((j : Int) / 3 * 4 + (j : Int) % 3)) ((((j : Int) / 3 * 4 + (j : Int) % 3) + 1)) ((((j : Int) / 3 * 4 + (j : Int) % 3) + 4 + 1)) ((((j : Int) / 3 * 4 + (j : Int) % 3) + 4)) = sqT 3 (j + 1)) := Lib.hid (by rw [HD.out.2, sqT_succ]; congr 1; have := HE.out.1; exact quad_eq (by omega) (by unfold sqLow; omega) (by unfold sqLow; omega) (by unfold sqLow; omega) (by unfold sqLow; omega))
            generalize T ++ quadT (M.length : Int) (((j : Int) / 3 * 4 + (j : Int) % 3)) ((((j : Int) / 3 * 4 + (j : Int) % 3) + 1)) ((((j : Int) / 3 * 4 + (j : Int) % 3) + 4 + 1)) ((((j : Int) / 3 * 4 + (j : Int) % 3) + 4)) = T6 at *
            have ex1 : IntKind.i64.wrap (2 * ((j : Int) % 3)) = 2 * ((j : Int) % 3) := IntWalk.i64_in _ (by omega)
            have ex2 : IntKind.i64.wrap (2 * ((j : Int) % 3) + 1) = 2 * ((j : Int) % 3) + 1 := IntWalk.i64_in _ (by omega)
            have ey1 : IntKind.i64.wrap (2 * ((j : Int) / 3)) = 2 * ((j : Int) / 3) := IntWalk.i64_in _ (by omega)
            have ey2 : IntKind.i64.wrap (2 * ((j : Int) / 3) + 1) = 2 * ((j : Int) / 3) + 1 := IntWalk.i64_in _ (by omega)
            go_wp2_with fail
            have hd0 : Below wc.heap.size wc wc.drew := (Below.refl _ _).drew
            replace P_m := rblk_below P_m hd0
            replace P_r := rblk_below P_r hd0
            replace G := G.below hd0
            replace kb := bt kb hd0
            clear hd0
            refine wp_region_held_drew (S := fun w' => True) (by kernel_rfl) trivial (fun hHeld => ?_)
            generalize wc.drew = Wd at *
            refine tk (i := 0) (v := ?vg12_1) rfl (by kernel_rfl) (fun _ _ _ h => h) (Or.inl ⟨by rfl, ?hg12_1⟩) hHeld ?_
            case hg12_1 => (intro w hSw; (try dsimp only at hSw); go_simp; (try with_reducible rfl))
            try simp only [ps]
            refine tk (i := 2) (v := ?vg12_2) rfl (by kernel_rfl) (fun _ _ _ h => h) (Or.inl ⟨by rfl, ?hg12_2⟩) hHeld ?_
            case hg12_2 => (intro w hSw; (try dsimp only at hSw); go_simp; (try with_reducible rfl))
            try simp only [ps]
            refine tk (i := 3) (v := ?vg12_3) rfl (by kernel_rfl) (fun _ _ _ h => h) (Or.inl ⟨by rfl, ?hg12_3⟩) hHeld ?_
            case hg12_3 => (intro w hSw; (try dsimp only at hSw); go_simp; (try with_reducible rfl))
            try simp only [ps]
            refine tk (i := 4) (v := ?vg12_4) rfl (by kernel_rfl) (fun _ _ _ h => h) (Or.inl ⟨by rfl, ?hg12_4⟩) hHeld ?_
            case hg12_4 => (intro w hSw; (try dsimp only at hSw); go_simp; (try with_reducible rfl))
            try simp only [ps]
            refine tk (i := 5) (v := ?vg12_5) rfl (by kernel_rfl) (fun _ _ _ h => h) (Or.inl ⟨by rfl, ?hg12_5⟩) hHeld ?_
            case hg12_5 => (intro w hSw; (try dsimp only at hSw); go_simp; (try with_reducible rfl))
            try simp only [ps]
            refine tk (i := 6) (v := ?vg12_6) rfl (by kernel_rfl) (fun _ _ _ h => h) (Or.inl ⟨by rfl, ?hg12_6⟩) hHeld ?_
            case hg12_6 => (intro w hSw; (try dsimp only at hSw); go_simp; (try with_reducible rfl))
            try simp only [ps]
            refine tk (i := 7) (v := ?vg12_7) rfl (by kernel_rfl) (fun _ _ _ h => h) (Or.inl ⟨by rfl, ?hg12_7⟩) hHeld ?_
            case hg12_7 => (intro w hSw; (try dsimp only at hSw); go_simp; (try with_reducible rfl))
            try simp only [ps]
            refine wpAnyH_ready (rs := [1, 8]) (by kernel_rfl) (by simp) ?_
            refine rc1 rfl (fun K hK => ?_) (rc1 rfl (fun K hK => ?_) AllReadyH.nil)
            · skip
              have t0 := rblk_cell P_m 0
              go_simp
              clear t0
              refine hK.out _ _ trivial (fun hH => ?_)
              replace hHeld := hH
              clear hK K hH
              try simp only [ps]
              refine rd1 (i := 8) (by kernel_rfl) rfl (fun K hK => ?_)
              have hz0 := G.hh
              go_simp
              (go_at_call 17; ((with_reducible refine (HQ.out j _ hlt).mono ?_); rintro e Wc ⟨a1, a2, rfl, hcs, oq, apq, hb⟩))
              replace P_m := rblk_below P_m hb
              replace P_r := rblk_below P_r hb
              replace G := G.below hb
              replace kb := bt kb hb
              clear hb hcs
              refine hK.out _ _ trivial (fun hH => ?_)
              replace hHeld := hH
              clear hK K hH
              try simp only [ps]
              refine rd1 (i := 9) (by kernel_rfl) rfl (fun K hK => ?_)
              go_simp
              refine hK.out _ _ trivial (fun hH => ?_)
              replace hHeld := hH
              clear hK K hH
              try simp only [ps]
              refine rd1 (i := 10) (by kernel_rfl) rfl (fun K hK => ?_)
              refine wanted_op (by rfl) ?_
              refine grow_pt_op (.tmp 77) (.tmp 85) rfl G ⟨(ofO (ofQ (2 * ((j : Int) % 3) + 1) 2)), (ofO (ofQ (2 * ((j : Int) / 3) + 1) 2)), a1, a2⟩ rfl rfl (by have := HL.out; omega) (by omega) hz0 oq apq ?_
              intro A2 cc w2 G2 k2 _ _
              have hz2 := k2.size
              replace P_m := (k2.block _ (by omega)).trans P_m
              replace P_r := (k2.block _ (by omega)).trans P_r
              replace kb := kb.trans (k2.mono (by omega))
              clear G oq apq k2 hz0
              refine hK.out _ _ trivial (fun hH => ?_)
              replace hHeld := hH
              clear hK K hH
              try simp only [ps]
              refine tk (i := 11) (v := ?vg12_8) rfl (by kernel_rfl) (fun _ _ _ h => h) (Or.inl ⟨by rfl, ?hg12_8⟩) hHeld ?_
              case hg12_8 => (intro w hSw; (try dsimp only at hSw); go_simp; (try with_reducible rfl))
              try simp only [ps]
              refine rd1 (i := 12) (by kernel_rfl) rfl (fun K hK => ?_)
              have t0 := rblk_cell P_m 0
              have q0 := rblk_free P_m 0
              go_simp
              clear t0 q0
              replace P_r := rblk_other P_r 0 (.slice A2 (M.length + 1) cc) (show (w.heap.size + 1) ≠ w.heap.size by omega)
              replace P_m := rblk_set P_m 0 (.slice A2 (M.length + 1) cc)
              replace G2 := G2.put (g := (w.heap.size + 1)) (i := 0) (by omega) (.slice A2 (M.length + 1) cc)
              replace kb := below_put (o := 0) kb (show w.heap.size ≤ (w.heap.size + 1) by omega) (.slice A2 (M.length + 1) cc)
              have hz3 : (w2.setCell ⟨(w.heap.size + 1), 0, none⟩ (.slice A2 (M.length + 1) cc)).heap.size = w2.heap.size := by simp [World.setCell]
              rw [← hz3] at G2
              clear hz3 hz2
              generalize w2.setCell ⟨(w.heap.size + 1), 0, none⟩ (.slice A2 (M.length + 1) cc) = w3 at *
              refine hK.out _ _ trivial (fun hH => ?_)
              replace hHeld := hH
              clear hK K hH
              try simp only [ps]
              refine wpAnyH_done (by kernel_rfl) ?_ _
              have HZ := Lib.hid (rblk_lt P_m)
              rw [show (#[Value.slice A M.length c, Value.slice D2 T6.length dd].setIfInBounds 0 (.slice A2 (M.length + 1) cc)) = #[.slice A2 (M.length + 1) cc, .slice D2 T6.length dd] from rfl] at P_m
              have HX := Lib.hid (And.intro G2 (And.intro P_m (And.intro P_r kb)))
              clear G2 P_m P_r kb ex1 ex2 ey1 ey2
              go_wp2
              go_roundw
              case rel => exact ⟨j + 1, M ++ [⟨(ofO (ofQ (2 * ((j : Int) % 3) + 1) 2)), (ofO (ofQ (2 * ((j : Int) / 3) + 1) 2)), a1, a2⟩], T6, A2, D2, cc, dd, _, by omega, by go_num, by rw [dat_app, HD.out.1, sqP_succ]; rfl, HT.out, by rw [List.length_append]; exact HX.out.1, by have := HX.out.1.hh; have := HZ.out; omega, by rw [List.length_append]; exact HX.out.2.1, HX.out.2.2.1, HX.out.2.2.2⟩
              case measure => simp [intOf]; omega
            · skip
              have hz0 := G.hh
              go_simp
              (go_at_call 17; ((with_reducible refine (HQ.out j _ hlt).mono ?_); rintro e Wc ⟨a1, a2, rfl, hcs, oq, apq, hb⟩))
              replace P_m := rblk_below P_m hb
              replace P_r := rblk_below P_r hb
              replace G := G.below hb
              replace kb := bt kb hb
              clear hb hcs
              refine hK.out _ _ trivial (fun hH => ?_)
              replace hHeld := hH
              clear hK K hH
              try simp only [ps]
              refine wpAnyH_ready (rs := [1, 9]) (by kernel_rfl) (by simp) ?_
              refine rc1 rfl (fun K hK => ?_) (rc1 rfl (fun K hK => ?_) AllReadyH.nil)
              · skip
                have t0 := rblk_cell P_m 0
                go_simp
                clear t0
                refine hK.out _ _ trivial (fun hH => ?_)
                replace hHeld := hH
                clear hK K hH
                try simp only [ps]
                refine rd1 (i := 9) (by kernel_rfl) rfl (fun K hK => ?_)
                go_simp
                refine hK.out _ _ trivial (fun hH => ?_)
                replace hHeld := hH
                clear hK K hH
                try simp only [ps]
                refine rd1 (i := 10) (by kernel_rfl) rfl (fun K hK => ?_)
                refine wanted_op (by rfl) ?_
                refine grow_pt_op (.tmp 77) (.tmp 85) rfl G ⟨(ofO (ofQ (2 * ((j : Int) % 3) + 1) 2)), (ofO (ofQ (2 * ((j : Int) / 3) + 1) 2)), a1, a2⟩ rfl rfl (by have := HL.out; omega) (by omega) hz0 oq apq ?_
                intro A2 cc w2 G2 k2 _ _
                have hz2 := k2.size
                replace P_m := (k2.block _ (by omega)).trans P_m
                replace P_r := (k2.block _ (by omega)).trans P_r
                replace kb := kb.trans (k2.mono (by omega))
                clear G oq apq k2 hz0
                refine hK.out _ _ trivial (fun hH => ?_)
                replace hHeld := hH
                clear hK K hH
                try simp only [ps]
                refine tk (i := 11) (v := ?vg12_9) rfl (by kernel_rfl) (fun _ _ _ h => h) (Or.inl ⟨by rfl, ?hg12_9⟩) hHeld ?_
                case hg12_9 => (intro w hSw; (try dsimp only at hSw); go_simp; (try with_reducible rfl))
                try simp only [ps]
                refine rd1 (i := 12) (by kernel_rfl) rfl (fun K hK => ?_)
                have t0 := rblk_cell P_m 0
                have q0 := rblk_free P_m 0
                go_simp
                clear t0 q0
                replace P_r := rblk_other P_r 0 (.slice A2 (M.length + 1) cc) (show (w.heap.size + 1) ≠ w.heap.size by omega)
                replace P_m := rblk_set P_m 0 (.slice A2 (M.length + 1) cc)
                replace G2 := G2.put (g := (w.heap.size + 1)) (i := 0) (by omega) (.slice A2 (M.length + 1) cc)
                replace kb := below_put (o := 0) kb (show w.heap.size ≤ (w.heap.size + 1) by omega) (.slice A2 (M.length + 1) cc)
                have hz3 : (w2.setCell ⟨(w.heap.size + 1), 0, none⟩ (.slice A2 (M.length + 1) cc)).heap.size = w2.heap.size := by simp [World.setCell]
                rw [← hz3] at G2
                clear hz3 hz2
                generalize w2.setCell ⟨(w.heap.size + 1), 0, none⟩ (.slice A2 (M.length + 1) cc) = w3 at *
                refine hK.out _ _ trivial (fun hH => ?_)
                replace hHeld := hH
                clear hK K hH
                try simp only [ps]
                refine wpAnyH_done (by kernel_rfl) ?_ _
                have HZ := Lib.hid (rblk_lt P_m)
                rw [show (#[Value.slice A M.length c, Value.slice D2 T6.length dd].setIfInBounds 0 (.slice A2 (M.length + 1) cc)) = #[.slice A2 (M.length + 1) cc, .slice D2 T6.length dd] from rfl] at P_m
                have HX := Lib.hid (And.intro G2 (And.intro P_m (And.intro P_r kb)))
                clear G2 P_m P_r kb ex1 ex2 ey1 ey2
                go_wp2
                go_roundw
                case rel => exact ⟨j + 1, M ++ [⟨(ofO (ofQ (2 * ((j : Int) % 3) + 1) 2)), (ofO (ofQ (2 * ((j : Int) / 3) + 1) 2)), a1, a2⟩], T6, A2, D2, cc, dd, _, by omega, by go_num, by rw [dat_app, HD.out.1, sqP_succ]; rfl, HT.out, by rw [List.length_append]; exact HX.out.1, by have := HX.out.1.hh; have := HZ.out; omega, by rw [List.length_append]; exact HX.out.2.1, HX.out.2.2.1, HX.out.2.2.2⟩
                case measure => simp [intOf]; omega
              · skip
                go_simp
                refine hK.out _ _ trivial (fun hH => ?_)
                replace hHeld := hH
                clear hK K hH
                try simp only [ps]
                refine rd1 (i := 1) (by kernel_rfl) rfl (fun K hK => ?_)
                have t0 := rblk_cell (rblk_below P_m (ba1 _ (.cells #[.bool (ofO (ofQ (2 * ((j : Int) % 3) + 1) 2)).p, .slice a1.A (ofO (ofQ (2 * ((j : Int) % 3) + 1) 2)).l.length a1.c, .slice a1.D (ofO (ofQ (2 * ((j : Int) % 3) + 1) 2)).m.length a1.d, .bool (ofO (ofQ (2 * ((j : Int) / 3) + 1) 2)).p, .slice a2.A (ofO (ofQ (2 * ((j : Int) / 3) + 1) 2)).l.length a2.c, .slice a2.D (ofO (ofQ (2 * ((j : Int) / 3) + 1) 2)).m.length a2.d] 39))) 0
                go_simp
                clear t0
                refine hK.out _ _ trivial (fun hH => ?_)
                replace hHeld := hH
                clear hK K hH
                try simp only [ps]
                refine rd1 (i := 10) (by kernel_rfl) rfl (fun K hK => ?_)
                refine wanted_op (by rfl) ?_
                refine grow_pt_op (.tmp 77) (.tmp 85) rfl G ⟨(ofO (ofQ (2 * ((j : Int) % 3) + 1) 2)), (ofO (ofQ (2 * ((j : Int) / 3) + 1) 2)), a1, a2⟩ rfl rfl (by have := HL.out; omega) (by omega) hz0 oq apq ?_
                intro A2 cc w2 G2 k2 _ _
                have hz2 := k2.size
                replace P_m := (k2.block _ (by omega)).trans P_m
                replace P_r := (k2.block _ (by omega)).trans P_r
                replace kb := kb.trans (k2.mono (by omega))
                clear G oq apq k2 hz0
                refine hK.out _ _ trivial (fun hH => ?_)
                replace hHeld := hH
                clear hK K hH
                try simp only [ps]
                refine tk (i := 11) (v := ?vg12_10) rfl (by kernel_rfl) (fun _ _ _ h => h) (Or.inl ⟨by rfl, ?hg12_10⟩) hHeld ?_
                case hg12_10 => (intro w hSw; (try dsimp only at hSw); go_simp; (try with_reducible rfl))
                try simp only [ps]
                refine rd1 (i := 12) (by kernel_rfl) rfl (fun K hK => ?_)
                have t0 := rblk_cell P_m 0
                have q0 := rblk_free P_m 0
                go_simp
                clear t0 q0
                replace P_r := rblk_other P_r 0 (.slice A2 (M.length + 1) cc) (show (w.heap.size + 1) ≠ w.heap.size by omega)
                replace P_m := rblk_set P_m 0 (.slice A2 (M.length + 1) cc)
                replace G2 := G2.put (g := (w.heap.size + 1)) (i := 0) (by omega) (.slice A2 (M.length + 1) cc)
                replace kb := below_put (o := 0) kb (show w.heap.size ≤ (w.heap.size + 1) by omega) (.slice A2 (M.length + 1) cc)
                have hz3 : (w2.setCell ⟨(w.heap.size + 1), 0, none⟩ (.slice A2 (M.length + 1) cc)).heap.size = w2.heap.size := by simp [World.setCell]
                rw [← hz3] at G2
                clear hz3 hz2
                generalize w2.setCell ⟨(w.heap.size + 1), 0, none⟩ (.slice A2 (M.length + 1) cc) = w3 at *
                refine hK.out _ _ trivial (fun hH => ?_)
                replace hHeld := hH
                clear hK K hH
                try simp only [ps]
                refine wpAnyH_done (by kernel_rfl) ?_ _
                have HZ := Lib.hid (rblk_lt P_m)
                rw [show (#[Value.slice A M.length c, Value.slice D2 T6.length dd].setIfInBounds 0 (.slice A2 (M.length + 1) cc)) = #[.slice A2 (M.length + 1) cc, .slice D2 T6.length dd] from rfl] at P_m
                have HX := Lib.hid (And.intro G2 (And.intro P_m (And.intro P_r kb)))
                clear G2 P_m P_r kb ex1 ex2 ey1 ey2
                go_wp2
                go_roundw
                case rel => exact ⟨j + 1, M ++ [⟨(ofO (ofQ (2 * ((j : Int) % 3) + 1) 2)), (ofO (ofQ (2 * ((j : Int) / 3) + 1) 2)), a1, a2⟩], T6, A2, D2, cc, dd, _, by omega, by go_num, by rw [dat_app, HD.out.1, sqP_succ]; rfl, HT.out, by rw [List.length_append]; exact HX.out.1, by have := HX.out.1.hh; have := HZ.out; omega, by rw [List.length_append]; exact HX.out.2.1, HX.out.2.2.1, HX.out.2.2.2⟩
                case measure => simp [intOf]; omega
        · rw [show (j : Int) = 9 by omega]
          obtain rfl : j = 9 := by omega
          have r0 := rblk_cell P_r 0
          have r1 := rblk_cell P_r 1
          have q0 := rblk_free P_r 0
          have q1 := rblk_free P_r 1
          have HX := Lib.hid (((G.put (g := w.heap.size) (i := 0) (by omega) (.slice A M.length c)).put (g := w.heap.size) (i := 1) (by omega) (.slice D T.length d)).made (B0 := w.heap.size) (m := mvOf (sqP 3 9) (sqT 3 9)) (by omega) (by rw [datM_of, hd, hT]) (w := w) (below_put (o := 1) (below_put (o := 0) kb (Nat.le_refl _) (.slice A M.length c)) (Nat.le_refl _) (.slice D T.length d)))
          have PZ := rblk_set (rblk_set P_r 0 (.slice A M.length c)) 1 (.slice D T.length d)
          have z0 := rblk_cell PZ 0
          have z1 := rblk_cell PZ 1
          have t0 := rblk_cell P_m 0
          have t1 := rblk_cell P_m 1
          clear hl hlT hd hT
          go_wp2
          exact bodyPost_ret (v := .agg #[.slice A M.length c, .slice D T.length d]) (by simp [results, Try.results6, go_sem, z0, z1]) rfl HX.out
/-- The mesh of the built-in square. -/
def sqM (n : Int) : MV := if n = 1 then mvOf (sqP 1 1) (sqT 1 1) else if n = 2 then mvOf (sqP 2 4) (sqT 2 4) else if n = 3 then mvOf (sqP 3 9) (sqT 3 9) else mvOf [] []
theorem impl_square (n : Int) (w : World) : Calls Try.prog 6 #[.int .i64 n] w (MadeMi w.heap.size (sqM n) w) := by
  have hc : n = 1 ∨ n = 2 ∨ n = 3 ∨ n < 1 ∨ 3 < n := by omega
  rcases hc with rfl | rfl | rfl | h | h
  · exact impl_square_1 w
  · exact impl_square_2 w
  · exact impl_square_3 w
  all_goals
    have e : sqM n = mvOf [] [] := by
      unfold sqM
      rw [if_neg (by omega), if_neg (by omega), if_neg (by omega)]
    rw [e]
    exact impl_square_no n w (by omega)
end Go.Proofs.Ytjcbaiphkchehaa
