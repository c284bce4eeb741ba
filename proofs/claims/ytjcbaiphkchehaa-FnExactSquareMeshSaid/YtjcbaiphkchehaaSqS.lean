/-
  The built-in square: the model.
-/
import Derived.Test.YtjcbaiphkchehaaSqI
import Derived.Test.YtjcbaiphkchehaaCor0
import Derived.Test.YtjcbaiphkchehaaPtS
import Derived.Test.YtjcbaiphkchehaaTk
namespace Go.Proofs.Ytjcbaiphkchehaa
open Go.ChangeShapes Go.WideShapes Go.ChangeAt Go.RowKit
open Go.ChangeMaps (open_string shut_string)
set_option linter.unusedVariables false
set_option linter.unusedSimpArgs false
set_option maxRecDepth 4000

theorem blocks5 (w : World) (o1 o2 o3 o4 o5 : Obj) : (((((w.alloc o1).alloc o2).alloc o3).alloc o4).alloc o5).heap[w.heap.size]? = some o1 ∧ (((((w.alloc o1).alloc o2).alloc o3).alloc o4).alloc o5).heap[w.heap.size + 1]? = some o2 ∧ (((((w.alloc o1).alloc o2).alloc o3).alloc o4).alloc o5).heap[w.heap.size + 2]? = some o3 ∧ (((((w.alloc o1).alloc o2).alloc o3).alloc o4).alloc o5).heap[w.heap.size + 3]? = some o4 ∧ (((((w.alloc o1).alloc o2).alloc o3).alloc o4).alloc o5).heap[w.heap.size + 4]? = some o5 := by
  obtain ⟨h1, h2, h3⟩ := blocks3 w o1 o2 o3
  have hs : (((w.alloc o1).alloc o2).alloc o3).heap.size = w.heap.size + 3 := by simp
  obtain ⟨h4, h5⟩ := blocks2 (((w.alloc o1).alloc o2).alloc o3) o4 o5
  rw [hs] at h4 h5
  have hb := ba2 (((w.alloc o1).alloc o2).alloc o3) o4 o5
  exact ⟨rblk_below h1 hb, rblk_below h2 hb, rblk_below h3 hb, h4, h5⟩
theorem ba5 (w : World) (o1 o2 o3 o4 o5 : Obj) : Below w.heap.size w (((((w.alloc o1).alloc o2).alloc o3).alloc o4).alloc o5) := bt (ba3 w o1 o2 o3) (ba2 _ o4 o5)
/-- The corners in turn. -/
def qa (a b c d : Int) : Nat → Int
  | 0 => a
  | 1 => b
  | 2 => c
  | _ => d
theorem quad_at (o a b c d : Int) {j : Nat} (h : j < 4) : (quadT o a b c d)[j]? = some ⟨o, qa a b c d j, qa b c d a j, 0, 0⟩ := by
  have hc : j = 0 ∨ j = 1 ∨ j = 2 ∨ j = 3 := by omega
  rcases hc with rfl | rfl | rfl | rfl <;> rfl
theorem quad_take (o a b c d : Int) {j : Nat} (h : j < 4) : (quadT o a b c d).take (j + 1) = (quadT o a b c d).take j ++ [⟨o, qa a b c d j, qa b c d a j, 0, 0⟩] := take_succT (quad_at o a b c d h)
/-- Rows of two numbers, and the row of rows. -/
def Rows4 (W : World) (z : Nat) (a b c d : Int) : Prop := (∀ j, j < 4 → W.heap[z + j]? = some (.cells #[.int .i64 (qa a b c d j), .int .i64 (qa b c d a j)] 3 (0, 0))) ∧ ∃ cs, W.heap[z + 4]? = some (.cells cs 33 (0, 0)) ∧ ∀ j, j < 4 → cs[j]? = some (.slice (some ⟨z + j, 0, none⟩) 2 2)
theorem rows4_mk {W : World} {z : Nat} {a b c d : Int} (h0 : W.heap[z]? = some (.cells #[.int .i64 a, .int .i64 b] 3 (0, 0))) (h1 : W.heap[z + 1]? = some (.cells #[.int .i64 b, .int .i64 c] 3 (0, 0))) (h2 : W.heap[z + 2]? = some (.cells #[.int .i64 c, .int .i64 d] 3 (0, 0))) (h3 : W.heap[z + 3]? = some (.cells #[.int .i64 d, .int .i64 a] 3 (0, 0)))
    (h4 : W.heap[z + 4]? = some (.cells #[.slice (some ⟨z, 0, none⟩) 2 2, .slice (some ⟨z + 1, 0, none⟩) 2 2, .slice (some ⟨z + 2, 0, none⟩) 2 2, .slice (some ⟨z + 3, 0, none⟩) 2 2] 33 (0, 0))) : Rows4 W z a b c d := by
  refine ⟨fun j hj => ?_, _, h4, fun j hj => ?_⟩
  · have hc : j = 0 ∨ j = 1 ∨ j = 2 ∨ j = 3 := by omega
    rcases hc with rfl | rfl | rfl | rfl
    · exact h0
    · exact h1
    · exact h2
    · exact h3
  · have hc : j = 0 ∨ j = 1 ∨ j = 2 ∨ j = 3 := by omega
    rcases hc with rfl | rfl | rfl | rfl <;> rfl
theorem Rows4.keep {W W' : World} {z : Nat} {a b c d : Int} (h : Rows4 W z a b c d) (hk : ∀ j, j < 5 → W'.heap[z + j]? = W.heap[z + j]?) : Rows4 W' z a b c d :=
  ⟨fun j hj => (hk j (by omega)).trans (h.1 j hj), h.2.imp fun cs hc => ⟨(hk 4 (by omega)).trans hc.1, hc.2⟩⟩
theorem Rows4.lt {W : World} {z : Nat} {a b c d : Int} (h : Rows4 W z a b c d) : z + 4 < W.heap.size := by obtain ⟨cs, h1, _⟩ := h.2; exact rblk_lt h1
theorem Rows4.below {W W' : World} {z : Nat} {a b c d : Int} (h : Rows4 W z a b c d) (hb : Below W.heap.size W W') : Rows4 W' z a b c d := h.keep fun j hj => hb.block _ (by have := h.lt; omega)
theorem Rows4.put {W : World} {z : Nat} {a b c d : Int} (h : Rows4 W z a b c d) {g i : Nat} (hg : g < z) (x : Value) : Rows4 (W.setCell ⟨g, i, none⟩ x) z a b c d := h.keep fun j _ => Below.heap_setCell W ⟨g, i, none⟩ x (z + j) (by show z + j ≠ g; omega)
theorem Rows4.off {B s n : Nat} {W : World} {u : Value} {xs : List Value} {z : Nat} {a b c d : Int} (h : Rows4 W z a b c d) (ho : W.ownsRow B 43 s u n xs) : ∀ j, j < 5 → u.ownBlock ≠ some (z + j) := fun j hj => by
  by_cases h4 : j = 4
  · subst h4
    obtain ⟨cs, h1, _⟩ := h.2
    exact own_ne (by decide) ho h1
  · exact own_ne (by decide) ho (h.1 j (by omega))
theorem sqPt_at {r x y : Nat} (h : x < r) : sqPt r (y * r + x) = (rfi (x : Int), rfi (y : Int)) := by
  unfold sqPt
  rw [Nat.mul_comm y r, Nat.mul_add_mod, Nat.mod_eq_of_lt h, Nat.mul_add_div (by omega), Nat.div_eq_of_lt h, Nat.add_zero]
theorem sqMid_at {n x y : Nat} (h : x < n) : sqMid n (y * n + x) = (ofO (ofQ (2 * (x : Int) + 1) 2), ofO (ofQ (2 * (y : Int) + 1) 2)) := by
  unfold sqMid
  rw [Nat.mul_comm y n, Nat.mul_add_mod, Nat.mod_eq_of_lt h, Nat.mul_add_div (by omega), Nat.div_eq_of_lt h, Nat.add_zero]
theorem sqLow_at {n x y : Nat} (h : x < n) : sqLow n (y * n + x) = ((y * (n + 1) + x : Nat) : Int) := by
  unfold sqLow
  rw [Nat.mul_comm y n, Nat.mul_add_mod, Nat.mod_eq_of_lt h, Nat.mul_add_div (by omega), Nat.div_eq_of_lt h, Nat.add_zero]
set_option maxHeartbeats 4000000 in
theorem spec_square_no (n : Int) (w : World) (hn : n < 1 ∨ 3 < n) :
    Calls Try.prog 5 #[.int .i64 n] w (MadeMi w.heap.size (mvOf [] []) w) := by
  have HI := Lib.hid (fun W => l01In_r n 1 3 W)
  rw [show (decide (1 ≤ n) && decide (n ≤ 3)) = false by rcases hn with h | h <;> simp <;> omega] at HI
  go_enter Try.func5, Try.ntmps5
  go_wp2_with fail
  have kb := ba2 w (.cells #[.slice none 0 0, .slice none 0 0] 25) (.cells #[.slice none 0 0, .slice none 0 0] 25)
  obtain ⟨P_r, P_m⟩ := blocks2 w (.cells #[.slice none 0 0, .slice none 0 0] 25) (.cells #[.slice none 0 0, .slice none 0 0] 25)
  generalize (w.alloc (.cells #[.slice none 0 0, .slice none 0 0] 25)).alloc (.cells #[.slice none 0 0, .slice none 0 0] 25) = W1 at kb P_r P_m ⊢
  refine (HI.out _).mono ?_
  rintro e W2 ⟨rfl, hb⟩
  replace P_m := rblk_below P_m hb
  replace P_r := rblk_below P_r hb
  replace kb := bt kb hb
  have hh := rblk_lt P_r
  have HX := Lib.hid ((Gm.start (B := w.heap.size) (hi := w.heap.size) (w := (W2.setCell ⟨w.heap.size, 0, none⟩ (.slice none 0 0)).setCell ⟨w.heap.size, 1, none⟩ (.slice none 0 0)) (by simp [World.setCell]; omega)).made (B0 := w.heap.size) (m := mvOf [] []) (Nat.le_refl _) rfl (w := w) (below_put (o := 1) (below_put (o := 0) kb (Nat.le_refl _) (.slice none 0 0)) (Nat.le_refl _) (.slice none 0 0)))
  have PZ := rblk_set (rblk_set P_r 0 (.slice none 0 0)) 1 (.slice none 0 0)
  have z0 := rblk_cell PZ 0
  have z1 := rblk_cell PZ 1
  have t0 := rblk_cell P_m 0
  have t1 := rblk_cell P_m 1
  have r0 := rblk_cell P_r 0
  have r1 := rblk_cell P_r 1
  have q0 := rblk_free P_r 0
  have q1 := rblk_free P_r 1
  clear hb hh
  go_wp2
  exact bodyPost_ret (v := .agg #[.slice none 0 0, .slice none 0 0]) (by simp [results, Try.results5, go_sem, z0, z1]) rfl HX.out
set_option maxHeartbeats 16000000 in
theorem spec_square_1 (w : World) :
    Calls Try.prog 5 #[.int .i64 1] w (MadeMi w.heap.size (mvOf (sqP 1 1) (sqT 1 1)) w) := by
  have HI := Lib.hid (fun W => l01In_r 1 1 3 W)
  rw [show (decide ((1 : Int) ≤ 1) && decide ((1 : Int) ≤ 3)) = true by decide] at HI
  have HP := Lib.hid (fun (x y : Nat) W (h : x < 5) (h' : y < 5) => spec_pointAt (x : Int) (y : Int) W (by omega) (by omega))
  have HQ := Lib.hid (fun (x y : Nat) W (h : x < 5) (h' : y < 5) => spec_halfP (2 * (x : Int) + 1) (2 * (y : Int) + 1) W (by omega) (by omega))
  unfold MadeP at HP HQ
  go_enter Try.func5, Try.ntmps5
  go_wp2_with fail
  have kb := ba2 w (.cells #[.slice none 0 0, .slice none 0 0] 25) (.cells #[.slice none 0 0, .slice none 0 0] 25)
  obtain ⟨P_r, P_m⟩ := blocks2 w (.cells #[.slice none 0 0, .slice none 0 0] 25) (.cells #[.slice none 0 0, .slice none 0 0] 25)
  generalize (w.alloc (.cells #[.slice none 0 0, .slice none 0 0] 25)).alloc (.cells #[.slice none 0 0, .slice none 0 0] 25) = W1 at kb P_r P_m ⊢
  refine (HI.out _).mono ?_
  rintro e W2 ⟨rfl, hb⟩
  replace P_m := rblk_below P_m hb
  replace P_r := rblk_below P_r hb
  replace kb := bt kb hb
  clear hb
  have hs0 := rblk_lt P_m
  have G : Gm (w.heap.size + 2) W2.heap.size W2 [] [] (.slice none 0 0) (.slice none 0 0) := Gm.start (Nat.le_refl _)
  go_wp2_with fail
  go_loopw [4] (fun yv w' => ∃ (y : Nat) (M : List PV) (T : List TV) (A D : Option Addr) (c d hi : Nat), y ≤ 2 ∧ yv = .int .i64 (y : Int) ∧ dat M = sqG 1 (y * 2) ∧ T = [] ∧ Gm (w.heap.size + 2) hi w' M T (.slice A M.length c) (.slice D T.length d) ∧ w.heap.size + 2 ≤ hi ∧ w'.heap[w.heap.size + 1]? = some (.cells #[.slice A M.length c, .slice D T.length d] 25 (0, 0)) ∧ w'.heap[w.heap.size]? = some (.cells #[.slice none 0 0, .slice none 0 0] 25 (0, 0)) ∧ Below w.heap.size w w') (fun yv _ => 2 - (intOf yv).toNat)
  case atStart => exact ⟨0, [], [], none, none, 0, 0, _, by omega, rfl, rfl, rfl, G, hs0, P_m, P_r, kb⟩
  case round =>
    clear G hs0 P_m P_r kb
    obtain ⟨y, M, T, A, D, c, d, hi, hy, rfl, hd, hT, G, hB, P_m, P_r, kb⟩ := hrel
    subst hT
    by_cases hlt : y < 2
    · have hy1 : (y : Int) ≤ 1 := by omega
      go_wp2_with fail
      go_loopw [5] (fun xv w' => ∃ (x : Nat) (M : List PV) (T : List TV) (A D : Option Addr) (c d hi : Nat), x ≤ 2 ∧ xv = .int .i64 (x : Int) ∧ dat M = sqG 1 (y * 2 + x) ∧ T = [] ∧ Gm (w.heap.size + 2) hi w' M T (.slice A M.length c) (.slice D T.length d) ∧ w.heap.size + 2 ≤ hi ∧ w'.heap[w.heap.size + 1]? = some (.cells #[.slice A M.length c, .slice D T.length d] 25 (0, 0)) ∧ w'.heap[w.heap.size]? = some (.cells #[.slice none 0 0, .slice none 0 0] 25 (0, 0)) ∧ Below w.heap.size w w') (fun xv _ => 2 - (intOf xv).toNat)
      case atStart => exact ⟨0, M, [], A, D, c, d, hi, by omega, rfl, hd, rfl, G, hB, P_m, P_r, kb⟩
      case round =>
        clear hd G hB P_m P_r kb
        obtain ⟨x, M, T, A, D, c, d, hi, hx, rfl, hd, hT, G, hB, P_m, P_r, kb⟩ := hrel
        subst hT
        have hl : M.length = y * 2 + x := by have := congrArg List.length hd; rw [sqG_len] at this; simpa [dat] using this
        have HL : Hid (M.length ≤ 16) := Lib.hid (by omega)
        have HD := Lib.hid hd
        clear hd hl
        by_cases hx1 : x < 2
        · have hx2 : (x : Int) ≤ 1 := by omega
          go_wp2_with fail
          have hd0 : Below wr.heap.size wr wr.drew := (Below.refl _ _).drew
          replace P_m := rblk_below P_m hd0
          replace P_r := rblk_below P_r hd0
          replace G := G.below hd0
          replace kb := bt kb hd0
          clear hd0
          refine wp_region_held_drew (S := fun w' => True) (by kernel_rfl) trivial (fun hHeld => ?_)
          generalize wr.drew = Wd at *
          refine tk (i := 0) (v := ?vg1_1) rfl (by kernel_rfl) (fun _ _ _ h => h) (Or.inl ⟨by rfl, ?hg1_1⟩) hHeld ?_
          case hg1_1 => (intro w hSw; (try dsimp only at hSw); go_simp; (try with_reducible rfl))
          try simp only [ps]
          refine tk (i := 2) (v := ?vg1_2) rfl (by kernel_rfl) (fun _ _ _ h => h) (Or.inl ⟨by rfl, ?hg1_2⟩) hHeld ?_
          case hg1_2 => (intro w hSw; (try dsimp only at hSw); go_simp; (try with_reducible rfl))
          try simp only [ps]
          refine tk (i := 3) (v := ?vg1_3) rfl (by kernel_rfl) (fun _ _ _ h => h) (Or.inl ⟨by rfl, ?hg1_3⟩) hHeld ?_
          case hg1_3 => (intro w hSw; (try dsimp only at hSw); go_simp; (try with_reducible rfl))
          try simp only [ps]
          refine wpAnyH_ready (rs := [1, 4]) (by kernel_rfl) (by simp) ?_
          refine rc1 rfl (fun K hK => ?_) (rc1 rfl (fun K hK => ?_) AllReadyH.nil)
          · skip
            have t0 := rblk_cell P_m 0
            go_simp
            clear t0
            refine hK.out _ _ trivial (fun hH => ?_)
            replace hHeld := hH
            clear hK K hH
            try simp only [ps]
            refine rd1 (i := 4) (by kernel_rfl) rfl (fun K hK => ?_)
            have hz0 := G.hh
            go_simp
            (go_at_call 13; ((with_reducible refine (HP.out x y _ (by omega) (by omega)).mono ?_); rintro e Wc ⟨a1, a2, rfl, hcs, oq, apq, hb⟩))
            replace P_m := rblk_below P_m hb
            replace P_r := rblk_below P_r hb
            replace G := G.below hb
            replace kb := bt kb hb
            clear hb hcs
            refine hK.out _ _ trivial (fun hH => ?_)
            replace hHeld := hH
            clear hK K hH
            try simp only [ps]
            refine rd1 (i := 5) (by kernel_rfl) rfl (fun K hK => ?_)
            go_simp
            refine hK.out _ _ trivial (fun hH => ?_)
            replace hHeld := hH
            clear hK K hH
            try simp only [ps]
            refine rd1 (i := 6) (by kernel_rfl) rfl (fun K hK => ?_)
            refine wanted_op (by rfl) ?_
            refine grow_pt_op (.tmp 28) (.tmp 32) rfl G ⟨(rfi (x : Int)), (rfi (y : Int)), a1, a2⟩ rfl rfl (by have := HL.out; omega) (by omega) hz0 oq apq ?_
            intro A2 cc w2 G2 k2 _ _
            have hz2 := k2.size
            replace P_m := (k2.block _ (by omega)).trans P_m
            replace P_r := (k2.block _ (by omega)).trans P_r
            replace kb := kb.trans (k2.mono (by omega))
            clear G oq apq k2 hz0
            refine hK.out _ _ trivial (fun hH => ?_)
            replace hHeld := hH
            clear hK K hH
            try simp only [ps]
            refine tk (i := 7) (v := ?vg1_4) rfl (by kernel_rfl) (fun _ _ _ h => h) (Or.inl ⟨by rfl, ?hg1_4⟩) hHeld ?_
            case hg1_4 => (intro w hSw; (try dsimp only at hSw); go_simp; (try with_reducible rfl))
            try simp only [ps]
            refine rd1 (i := 8) (by kernel_rfl) rfl (fun K hK => ?_)
            have t0 := rblk_cell P_m 0
            have q0 := rblk_free P_m 0
            go_simp
            clear t0 q0
            replace P_r := rblk_other P_r 0 (.slice A2 (M.length + 1) cc) (show (w.heap.size + 1) ≠ w.heap.size by omega)
            replace P_m := rblk_set P_m 0 (.slice A2 (M.length + 1) cc)
            replace G2 := G2.put (g := (w.heap.size + 1)) (i := 0) (by omega) (.slice A2 (M.length + 1) cc)
            replace kb := below_put (o := 0) kb (show w.heap.size ≤ (w.heap.size + 1) by omega) (.slice A2 (M.length + 1) cc)
            have hz3 : (w2.setCell ⟨(w.heap.size + 1), 0, none⟩ (.slice A2 (M.length + 1) cc)).heap.size = w2.heap.size := by simp [World.setCell]
            rw [← hz3] at G2
            clear hz3 hz2
            generalize w2.setCell ⟨(w.heap.size + 1), 0, none⟩ (.slice A2 (M.length + 1) cc) = w3 at *
            refine hK.out _ _ trivial (fun hH => ?_)
            replace hHeld := hH
            clear hK K hH
            try simp only [ps]
            refine wpAnyH_done (by kernel_rfl) ?_ _
            rw [show (#[Value.slice A M.length c, Value.slice D ([] : List TV).length d].setIfInBounds 0 (.slice A2 (M.length + 1) cc)) = #[.slice A2 (M.length + 1) cc, .slice D ([] : List TV).length d] from rfl] at P_m
            have HZ := Lib.hid (rblk_lt P_m)
            have HX := Lib.hid (And.intro G2 (And.intro P_m (And.intro P_r kb)))
            clear G2 P_m P_r kb
            go_wp2
            go_roundw
            case rel => exact ⟨x + 1, M ++ [⟨(rfi (x : Int)), (rfi (y : Int)), a1, a2⟩], [], A2, D, cc, d, _, by omega, by go_num, by rw [dat_app, HD.out, ← Nat.add_assoc, sqG_succ, sqPt_at hx1]; rfl, rfl, by rw [List.length_append]; exact HX.out.1, by have := HX.out.1.hh; have := HZ.out; omega, by rw [List.length_append]; exact HX.out.2.1, HX.out.2.2.1, HX.out.2.2.2⟩
            case measure => simp [intOf]; omega
          · skip
            have hz0 := G.hh
            go_simp
            (go_at_call 13; ((with_reducible refine (HP.out x y _ (by omega) (by omega)).mono ?_); rintro e Wc ⟨a1, a2, rfl, hcs, oq, apq, hb⟩))
            replace P_m := rblk_below P_m hb
            replace P_r := rblk_below P_r hb
            replace G := G.below hb
            replace kb := bt kb hb
            clear hb hcs
            refine hK.out _ _ trivial (fun hH => ?_)
            replace hHeld := hH
            clear hK K hH
            try simp only [ps]
            refine wpAnyH_ready (rs := [1, 5]) (by kernel_rfl) (by simp) ?_
            refine rc1 rfl (fun K hK => ?_) (rc1 rfl (fun K hK => ?_) AllReadyH.nil)
            · skip
              have t0 := rblk_cell P_m 0
              go_simp
              clear t0
              refine hK.out _ _ trivial (fun hH => ?_)
              replace hHeld := hH
              clear hK K hH
              try simp only [ps]
              refine rd1 (i := 5) (by kernel_rfl) rfl (fun K hK => ?_)
              go_simp
              refine hK.out _ _ trivial (fun hH => ?_)
              replace hHeld := hH
              clear hK K hH
              try simp only [ps]
              refine rd1 (i := 6) (by kernel_rfl) rfl (fun K hK => ?_)
              refine wanted_op (by rfl) ?_
              refine grow_pt_op (.tmp 28) (.tmp 32) rfl G ⟨(rfi (x : Int)), (rfi (y : Int)), a1, a2⟩ rfl rfl (by have := HL.out; omega) (by omega) hz0 oq apq ?_
              intro A2 cc w2 G2 k2 _ _
              have hz2 := k2.size
              replace P_m := (k2.block _ (by omega)).trans P_m
              replace P_r := (k2.block _ (by omega)).trans P_r
              replace kb := kb.trans (k2.mono (by omega))
              clear G oq apq k2 hz0
              refine hK.out _ _ trivial (fun hH => ?_)
              replace hHeld := hH
              clear hK K hH
              try simp only [ps]
              refine tk (i := 7) (v := ?vg1_5) rfl (by kernel_rfl) (fun _ _ _ h => h) (Or.inl ⟨by rfl, ?hg1_5⟩) hHeld ?_
              case hg1_5 => (intro w hSw; (try dsimp only at hSw); go_simp; (try with_reducible rfl))
              try simp only [ps]
              refine rd1 (i := 8) (by kernel_rfl) rfl (fun K hK => ?_)
              have t0 := rblk_cell P_m 0
              have q0 := rblk_free P_m 0
              go_simp
              clear t0 q0
              replace P_r := rblk_other P_r 0 (.slice A2 (M.length + 1) cc) (show (w.heap.size + 1) ≠ w.heap.size by omega)
              replace P_m := rblk_set P_m 0 (.slice A2 (M.length + 1) cc)
              replace G2 := G2.put (g := (w.heap.size + 1)) (i := 0) (by omega) (.slice A2 (M.length + 1) cc)
              replace kb := below_put (o := 0) kb (show w.heap.size ≤ (w.heap.size + 1) by omega) (.slice A2 (M.length + 1) cc)
              have hz3 : (w2.setCell ⟨(w.heap.size + 1), 0, none⟩ (.slice A2 (M.length + 1) cc)).heap.size = w2.heap.size := by simp [World.setCell]
              rw [← hz3] at G2
              clear hz3 hz2
              generalize w2.setCell ⟨(w.heap.size + 1), 0, none⟩ (.slice A2 (M.length + 1) cc) = w3 at *
              refine hK.out _ _ trivial (fun hH => ?_)
              replace hHeld := hH
              clear hK K hH
              try simp only [ps]
              refine wpAnyH_done (by kernel_rfl) ?_ _
              rw [show (#[Value.slice A M.length c, Value.slice D ([] : List TV).length d].setIfInBounds 0 (.slice A2 (M.length + 1) cc)) = #[.slice A2 (M.length + 1) cc, .slice D ([] : List TV).length d] from rfl] at P_m
              have HZ := Lib.hid (rblk_lt P_m)
              have HX := Lib.hid (And.intro G2 (And.intro P_m (And.intro P_r kb)))
              clear G2 P_m P_r kb
              go_wp2
              go_roundw
              case rel => exact ⟨x + 1, M ++ [⟨(rfi (x : Int)), (rfi (y : Int)), a1, a2⟩], [], A2, D, cc, d, _, by omega, by go_num, by rw [dat_app, HD.out, ← Nat.add_assoc, sqG_succ, sqPt_at hx1]; rfl, rfl, by rw [List.length_append]; exact HX.out.1, by have := HX.out.1.hh; have := HZ.out; omega, by rw [List.length_append]; exact HX.out.2.1, HX.out.2.2.1, HX.out.2.2.2⟩
              case measure => simp [intOf]; omega
            · skip
              go_simp
              refine hK.out _ _ trivial (fun hH => ?_)
              replace hHeld := hH
              clear hK K hH
              try simp only [ps]
              refine rd1 (i := 1) (by kernel_rfl) rfl (fun K hK => ?_)
              have t0 := rblk_cell (rblk_below P_m (ba1 _ (.cells #[.bool (rfi (x : Int)).p, .slice a1.A (rfi (x : Int)).l.length a1.c, .slice a1.D (rfi (x : Int)).m.length a1.d, .bool (rfi (y : Int)).p, .slice a2.A (rfi (y : Int)).l.length a2.c, .slice a2.D (rfi (y : Int)).m.length a2.d] 39))) 0
              go_simp
              clear t0
              refine hK.out _ _ trivial (fun hH => ?_)
              replace hHeld := hH
              clear hK K hH
              try simp only [ps]
              refine rd1 (i := 6) (by kernel_rfl) rfl (fun K hK => ?_)
              refine wanted_op (by rfl) ?_
              refine grow_pt_op (.tmp 28) (.tmp 32) rfl G ⟨(rfi (x : Int)), (rfi (y : Int)), a1, a2⟩ rfl rfl (by have := HL.out; omega) (by omega) hz0 oq apq ?_
              intro A2 cc w2 G2 k2 _ _
              have hz2 := k2.size
              replace P_m := (k2.block _ (by omega)).trans P_m
              replace P_r := (k2.block _ (by omega)).trans P_r
              replace kb := kb.trans (k2.mono (by omega))
              clear G oq apq k2 hz0
              refine hK.out _ _ trivial (fun hH => ?_)
              replace hHeld := hH
              clear hK K hH
              try simp only [ps]
              refine tk (i := 7) (v := ?vg1_6) rfl (by kernel_rfl) (fun _ _ _ h => h) (Or.inl ⟨by rfl, ?hg1_6⟩) hHeld ?_
              case hg1_6 => (intro w hSw; (try dsimp only at hSw); go_simp; (try with_reducible rfl))
              try simp only [ps]
              refine rd1 (i := 8) (by kernel_rfl) rfl (fun K hK => ?_)
              have t0 := rblk_cell P_m 0
              have q0 := rblk_free P_m 0
              go_simp
              clear t0 q0
              replace P_r := rblk_other P_r 0 (.slice A2 (M.length + 1) cc) (show (w.heap.size + 1) ≠ w.heap.size by omega)
              replace P_m := rblk_set P_m 0 (.slice A2 (M.length + 1) cc)
              replace G2 := G2.put (g := (w.heap.size + 1)) (i := 0) (by omega) (.slice A2 (M.length + 1) cc)
              replace kb := below_put (o := 0) kb (show w.heap.size ≤ (w.heap.size + 1) by omega) (.slice A2 (M.length + 1) cc)
              have hz3 : (w2.setCell ⟨(w.heap.size + 1), 0, none⟩ (.slice A2 (M.length + 1) cc)).heap.size = w2.heap.size := by simp [World.setCell]
              rw [← hz3] at G2
              clear hz3 hz2
              generalize w2.setCell ⟨(w.heap.size + 1), 0, none⟩ (.slice A2 (M.length + 1) cc) = w3 at *
              refine hK.out _ _ trivial (fun hH => ?_)
              replace hHeld := hH
              clear hK K hH
              try simp only [ps]
              refine wpAnyH_done (by kernel_rfl) ?_ _
              rw [show (#[Value.slice A M.length c, Value.slice D ([] : List TV).length d].setIfInBounds 0 (.slice A2 (M.length + 1) cc)) = #[.slice A2 (M.length + 1) cc, .slice D ([] : List TV).length d] from rfl] at P_m
              have HZ := Lib.hid (rblk_lt P_m)
              have HX := Lib.hid (And.intro G2 (And.intro P_m (And.intro P_r kb)))
              clear G2 P_m P_r kb
              go_wp2
              go_roundw
              case rel => exact ⟨x + 1, M ++ [⟨(rfi (x : Int)), (rfi (y : Int)), a1, a2⟩], [], A2, D, cc, d, _, by omega, by go_num, by rw [dat_app, HD.out, ← Nat.add_assoc, sqG_succ, sqPt_at hx1]; rfl, rfl, by rw [List.length_append]; exact HX.out.1, by have := HX.out.1.hh; have := HZ.out; omega, by rw [List.length_append]; exact HX.out.2.1, HX.out.2.2.1, HX.out.2.2.2⟩
              case measure => simp [intOf]; omega
        · have hx2 : ¬ (x : Int) ≤ 1 := by omega
          have HX := Lib.hid (And.intro G (And.intro hB (And.intro P_m (And.intro P_r kb))))
          clear G hB P_m P_r kb
          go_wp2
          go_roundw
          case rel => exact ⟨y + 1, M, [], A, D, c, d, hi, by omega, by go_num, by rw [HD.out]; congr 1; omega, rfl, HX.out⟩
          case measure => simp [intOf]; omega
    · have hy1 : ¬ (y : Int) ≤ 1 := by omega
      have d0 : dat M = sqP 1 0 := by rw [hd, show y = 2 by omega]; simp [sqP]
      clear hd
      go_wp2_with fail
      go_loopw [6] (fun yv w' => ∃ (v : Nat) (M : List PV) (T : List TV) (A D : Option Addr) (c d hi : Nat), v ≤ 1 ∧ yv = .int .i64 (v : Int) ∧ dat M = sqP 1 (v * 1) ∧ T = sqT 1 (v * 1) ∧ Gm (w.heap.size + 2) hi w' M T (.slice A M.length c) (.slice D T.length d) ∧ w.heap.size + 2 ≤ hi ∧ w'.heap[w.heap.size + 1]? = some (.cells #[.slice A M.length c, .slice D T.length d] 25 (0, 0)) ∧ w'.heap[w.heap.size]? = some (.cells #[.slice none 0 0, .slice none 0 0] 25 (0, 0)) ∧ Below w.heap.size w w') (fun yv _ => 1 - (intOf yv).toNat)
      case atStart => exact ⟨0, M, [], A, D, c, d, hi, by omega, rfl, by simpa using d0, by simp [sqT], G, hB, P_m, P_r, kb⟩
      case round =>
        clear d0 G hB P_m P_r kb
        obtain ⟨v, M, T, A, D, c, d, hi, hv, rfl, hd, hT, G, hB, P_m, P_r, kb⟩ := hrel
        by_cases hv1 : v < 1
        · have hv2 : (v : Int) < 1 := by omega
          go_wp2_with fail
          go_loopw [7] (fun xv w' => ∃ (u : Nat) (M : List PV) (T : List TV) (A D : Option Addr) (c d hi : Nat), u ≤ 1 ∧ xv = .int .i64 (u : Int) ∧ dat M = sqP 1 (v * 1 + u) ∧ T = sqT 1 (v * 1 + u) ∧ Gm (w.heap.size + 2) hi w' M T (.slice A M.length c) (.slice D T.length d) ∧ w.heap.size + 2 ≤ hi ∧ w'.heap[w.heap.size + 1]? = some (.cells #[.slice A M.length c, .slice D T.length d] 25 (0, 0)) ∧ w'.heap[w.heap.size]? = some (.cells #[.slice none 0 0, .slice none 0 0] 25 (0, 0)) ∧ Below w.heap.size w w') (fun xv _ => 1 - (intOf xv).toNat)
          case atStart => exact ⟨0, M, T, A, D, c, d, hi, by omega, rfl, hd, hT, G, hB, P_m, P_r, kb⟩
          case round =>
            clear hd hT G hB P_m P_r kb
            obtain ⟨u, M, T, A, D, c, d, hi, hu, rfl, hd, hT, G, hB, P_m, P_r, kb⟩ := hrel
            have hl : M.length = 4 + (v * 1 + u) := by have := congrArg List.length hd; rw [sqP_len] at this; simpa [dat] using this
            have hlT : T.length = (v * 1 + u) * 4 := by rw [hT, sqT_len]
            have HL : Hid (M.length ≤ 25 ∧ T.length ≤ 36) := Lib.hid (by omega)
            have HD := Lib.hid (And.intro hd hT)
            have HE := Lib.hid hl
            clear hd hT hl hlT
            by_cases hu1 : u < 1
            · have hu2 : (u : Int) < 1 := by omega
              have t0 := rblk_cell P_m 0
              go_wp2_with fail
              clear t0
              go_cut [] (fun wx => ∃ (M2 : List PV) (A2 : Option Addr) (cc hi2 : Nat), (dat M2 = sqP 1 (v * 1 + u + 1) ∧ M2.length = M.length + 1) ∧ Gm (w.heap.size + 2) hi2 wx M2 T (.slice A2 M2.length cc) (.slice D T.length d) ∧ w.heap.size + 2 ≤ hi2 ∧ wx.heap[w.heap.size + 1]? = some (.cells #[.slice A2 M2.length cc, .slice D T.length d] 25 (0, 0)) ∧ wx.heap[w.heap.size]? = some (.cells #[.slice none 0 0, .slice none 0 0] 25 (0, 0)) ∧ Below w.heap.size w wx)
              case first =>
                have ex1 : IntKind.i64.wrap (2 * (u : Int)) = 2 * (u : Int) := IntWalk.i64_in _ (by omega)
                have ex2 : IntKind.i64.wrap (2 * (u : Int) + 1) = 2 * (u : Int) + 1 := IntWalk.i64_in _ (by omega)
                have ey1 : IntKind.i64.wrap (2 * (v : Int)) = 2 * (v : Int) := IntWalk.i64_in _ (by omega)
                have ey2 : IntKind.i64.wrap (2 * (v : Int) + 1) = 2 * (v : Int) + 1 := IntWalk.i64_in _ (by omega)
                have hd0 : Below wr.heap.size wr wr.drew := (Below.refl _ _).drew
                replace P_m := rblk_below P_m hd0
                replace P_r := rblk_below P_r hd0
                replace G := G.below hd0
                replace kb := bt kb hd0
                clear hd0
                refine wp_region_held_drew (S := fun w' => True) (by kernel_rfl) trivial (fun hHeld => ?_)
                generalize wr.drew = Wd at *
                refine tk (i := 0) (v := ?vg2_1) rfl (by kernel_rfl) (fun _ _ _ h => h) (Or.inl ⟨by rfl, ?hg2_1⟩) hHeld ?_
                case hg2_1 => (intro w hSw; (try dsimp only at hSw); go_simp; (try with_reducible rfl))
                try simp only [ps]
                refine tk (i := 2) (v := ?vg2_2) rfl (by kernel_rfl) (fun _ _ _ h => h) (Or.inl ⟨by rfl, ?hg2_2⟩) hHeld ?_
                case hg2_2 => (intro w hSw; (try dsimp only at hSw); go_simp; (try with_reducible rfl))
                try simp only [ps]
                refine tk (i := 3) (v := ?vg2_3) rfl (by kernel_rfl) (fun _ _ _ h => h) (Or.inl ⟨by rfl, ?hg2_3⟩) hHeld ?_
                case hg2_3 => (intro w hSw; (try dsimp only at hSw); go_simp; (try with_reducible rfl))
                try simp only [ps]
                refine tk (i := 4) (v := ?vg2_4) rfl (by kernel_rfl) (fun _ _ _ h => h) (Or.inl ⟨by rfl, ?hg2_4⟩) hHeld ?_
                case hg2_4 => (intro w hSw; (try dsimp only at hSw); go_simp; (try with_reducible rfl))
                try simp only [ps]
                refine tk (i := 5) (v := ?vg2_5) rfl (by kernel_rfl) (fun _ _ _ h => h) (Or.inl ⟨by rfl, ?hg2_5⟩) hHeld ?_
                case hg2_5 => (intro w hSw; (try dsimp only at hSw); go_simp; (try with_reducible rfl))
                try simp only [ps]
                refine tk (i := 6) (v := ?vg2_6) rfl (by kernel_rfl) (fun _ _ _ h => h) (Or.inl ⟨by rfl, ?hg2_6⟩) hHeld ?_
                case hg2_6 => (intro w hSw; (try dsimp only at hSw); go_simp; (try with_reducible rfl))
                try simp only [ps]
                refine tk (i := 7) (v := ?vg2_7) rfl (by kernel_rfl) (fun _ _ _ h => h) (Or.inl ⟨by rfl, ?hg2_7⟩) hHeld ?_
                case hg2_7 => (intro w hSw; (try dsimp only at hSw); go_simp; (try with_reducible rfl))
                try simp only [ps]
                refine wpAnyH_ready (rs := [1, 8]) (by kernel_rfl) (by simp) ?_
                refine rc1 rfl (fun K hK => ?_) (rc1 rfl (fun K hK => ?_) AllReadyH.nil)
                · skip
                  have t0 := rblk_cell P_m 0
                  go_simp
                  clear t0
                  refine hK.out _ _ trivial (fun hH => ?_)
                  replace hHeld := hH
                  clear hK K hH
                  try simp only [ps]
                  refine rd1 (i := 8) (by kernel_rfl) rfl (fun K hK => ?_)
                  have hz0 := G.hh
                  go_simp
                  (go_at_call 14; ((with_reducible refine (HQ.out u v _ (by omega) (by omega)).mono ?_); rintro e Wc ⟨a1, a2, rfl, hcs, oq, apq, hb⟩))
                  replace P_m := rblk_below P_m hb
                  replace P_r := rblk_below P_r hb
                  replace G := G.below hb
                  replace kb := bt kb hb
                  clear hb hcs
                  refine hK.out _ _ trivial (fun hH => ?_)
                  replace hHeld := hH
                  clear hK K hH
                  try simp only [ps]
                  refine rd1 (i := 9) (by kernel_rfl) rfl (fun K hK => ?_)
                  go_simp
                  refine hK.out _ _ trivial (fun hH => ?_)
                  replace hHeld := hH
                  clear hK K hH
                  try simp only [ps]
                  refine rd1 (i := 10) (by kernel_rfl) rfl (fun K hK => ?_)
                  refine wanted_op (by rfl) ?_
                  refine grow_pt_op (.tmp 55) (.tmp 63) rfl G ⟨(ofO (ofQ (2 * (u : Int) + 1) 2)), (ofO (ofQ (2 * (v : Int) + 1) 2)), a1, a2⟩ rfl rfl (by have := HL.out; omega) (by omega) hz0 oq apq ?_
                  intro A2 cc w2 G2 k2 _ _
                  have hz2 := k2.size
                  replace P_m := (k2.block _ (by omega)).trans P_m
                  replace P_r := (k2.block _ (by omega)).trans P_r
                  replace kb := kb.trans (k2.mono (by omega))
                  clear G oq apq k2 hz0
                  refine hK.out _ _ trivial (fun hH => ?_)
                  replace hHeld := hH
                  clear hK K hH
                  try simp only [ps]
                  refine tk (i := 11) (v := ?vg2_8) rfl (by kernel_rfl) (fun _ _ _ h => h) (Or.inl ⟨by rfl, ?hg2_8⟩) hHeld ?_
                  case hg2_8 => (intro w hSw; (try dsimp only at hSw); go_simp; (try with_reducible rfl))
                  try simp only [ps]
                  refine rd1 (i := 12) (by kernel_rfl) rfl (fun K hK => ?_)
                  have t0 := rblk_cell P_m 0
                  have q0 := rblk_free P_m 0
                  go_simp
                  clear t0 q0
                  replace P_r := rblk_other P_r 0 (.slice A2 (M.length + 1) cc) (show (w.heap.size + 1) ≠ w.heap.size by omega)
                  replace P_m := rblk_set P_m 0 (.slice A2 (M.length + 1) cc)
                  replace G2 := G2.put (g := (w.heap.size + 1)) (i := 0) (by omega) (.slice A2 (M.length + 1) cc)
                  replace kb := below_put (o := 0) kb (show w.heap.size ≤ (w.heap.size + 1) by omega) (.slice A2 (M.length + 1) cc)
                  have hz3 : (w2.setCell ⟨(w.heap.size + 1), 0, none⟩ (.slice A2 (M.length + 1) cc)).heap.size = w2.heap.size := by simp [World.setCell]
                  rw [← hz3] at G2
                  clear hz3 hz2
                  generalize w2.setCell ⟨(w.heap.size + 1), 0, none⟩ (.slice A2 (M.length + 1) cc) = w3 at *
                  refine hK.out _ _ trivial (fun hH => ?_)
                  replace hHeld := hH
                  clear hK K hH
                  try simp only [ps]
                  refine wpAnyH_done (by kernel_rfl) ?_ _
                  rw [show (#[Value.slice A M.length c, Value.slice D T.length d].setIfInBounds 0 (.slice A2 (M.length + 1) cc)) = #[.slice A2 (M.length + 1) cc, .slice D T.length d] from rfl] at P_m
                  have HZ := Lib.hid (rblk_lt P_m)
                  have HX := Lib.hid (And.intro G2 (And.intro P_m (And.intro P_r kb)))
                  clear G2 P_m P_r kb ex1 ex2 ey1 ey2
                  go_wp2_with fail
                  go_meet
                  exact ⟨M ++ [⟨(ofO (ofQ (2 * (u : Int) + 1) 2)), (ofO (ofQ (2 * (v : Int) + 1) 2)), a1, a2⟩], A2, cc, _, ⟨by rw [dat_app, HD.out.1, sqP_succ, sqMid_at hu1]; rfl, by rw [List.length_append]; rfl⟩, by rw [List.length_append]; exact HX.out.1, by have := HX.out.1.hh; have := HZ.out; omega, by rw [List.length_append]; exact HX.out.2.1, HX.out.2.2.1, HX.out.2.2.2⟩
                · skip
                  have hz0 := G.hh
                  go_simp
                  (go_at_call 14; ((with_reducible refine (HQ.out u v _ (by omega) (by omega)).mono ?_); rintro e Wc ⟨a1, a2, rfl, hcs, oq, apq, hb⟩))
                  replace P_m := rblk_below P_m hb
                  replace P_r := rblk_below P_r hb
                  replace G := G.below hb
                  replace kb := bt kb hb
                  clear hb hcs
                  refine hK.out _ _ trivial (fun hH => ?_)
                  replace hHeld := hH
                  clear hK K hH
                  try simp only [ps]
                  refine wpAnyH_ready (rs := [1, 9]) (by kernel_rfl) (by simp) ?_
                  refine rc1 rfl (fun K hK => ?_) (rc1 rfl (fun K hK => ?_) AllReadyH.nil)
                  · skip
                    have t0 := rblk_cell P_m 0
                    go_simp
                    clear t0
                    refine hK.out _ _ trivial (fun hH => ?_)
                    replace hHeld := hH
                    clear hK K hH
                    try simp only [ps]
                    refine rd1 (i := 9) (by kernel_rfl) rfl (fun K hK => ?_)
                    go_simp
                    refine hK.out _ _ trivial (fun hH => ?_)
                    replace hHeld := hH
                    clear hK K hH
                    try simp only [ps]
                    refine rd1 (i := 10) (by kernel_rfl) rfl (fun K hK => ?_)
                    refine wanted_op (by rfl) ?_
                    refine grow_pt_op (.tmp 55) (.tmp 63) rfl G ⟨(ofO (ofQ (2 * (u : Int) + 1) 2)), (ofO (ofQ (2 * (v : Int) + 1) 2)), a1, a2⟩ rfl rfl (by have := HL.out; omega) (by omega) hz0 oq apq ?_
                    intro A2 cc w2 G2 k2 _ _
                    have hz2 := k2.size
                    replace P_m := (k2.block _ (by omega)).trans P_m
                    replace P_r := (k2.block _ (by omega)).trans P_r
                    replace kb := kb.trans (k2.mono (by omega))
                    clear G oq apq k2 hz0
                    refine hK.out _ _ trivial (fun hH => ?_)
                    replace hHeld := hH
                    clear hK K hH
                    try simp only [ps]
                    refine tk (i := 11) (v := ?vg2_9) rfl (by kernel_rfl) (fun _ _ _ h => h) (Or.inl ⟨by rfl, ?hg2_9⟩) hHeld ?_
                    case hg2_9 => (intro w hSw; (try dsimp only at hSw); go_simp; (try with_reducible rfl))
                    try simp only [ps]
                    refine rd1 (i := 12) (by kernel_rfl) rfl (fun K hK => ?_)
                    have t0 := rblk_cell P_m 0
                    have q0 := rblk_free P_m 0
                    go_simp
                    clear t0 q0
                    replace P_r := rblk_other P_r 0 (.slice A2 (M.length + 1) cc) (show (w.heap.size + 1) ≠ w.heap.size by omega)
                    replace P_m := rblk_set P_m 0 (.slice A2 (M.length + 1) cc)
                    replace G2 := G2.put (g := (w.heap.size + 1)) (i := 0) (by omega) (.slice A2 (M.length + 1) cc)
                    replace kb := below_put (o := 0) kb (show w.heap.size ≤ (w.heap.size + 1) by omega) (.slice A2 (M.length + 1) cc)
                    have hz3 : (w2.setCell ⟨(w.heap.size + 1), 0, none⟩ (.slice A2 (M.length + 1) cc)).heap.size = w2.heap.size := by simp [World.setCell]
                    rw [← hz3] at G2
                    clear hz3 hz2
                    generalize w2.setCell ⟨(w.heap.size + 1), 0, none⟩ (.slice A2 (M.length + 1) cc) = w3 at *
                    refine hK.out _ _ trivial (fun hH => ?_)
                    replace hHeld := hH
                    clear hK K hH
                    try simp only [ps]
                    refine wpAnyH_done (by kernel_rfl) ?_ _
                    rw [show (#[Value.slice A M.length c, Value.slice D T.length d].setIfInBounds 0 (.slice A2 (M.length + 1) cc)) = #[.slice A2 (M.length + 1) cc, .slice D T.length d] from rfl] at P_m
                    have HZ := Lib.hid (rblk_lt P_m)
                    have HX := Lib.hid (And.intro G2 (And.intro P_m (And.intro P_r kb)))
                    clear G2 P_m P_r kb ex1 ex2 ey1 ey2
                    go_wp2_with fail
                    go_meet
                    exact ⟨M ++ [⟨(ofO (ofQ (2 * (u : Int) + 1) 2)), (ofO (ofQ (2 * (v : Int) + 1) 2)), a1, a2⟩], A2, cc, _, ⟨by rw [dat_app, HD.out.1, sqP_succ, sqMid_at hu1]; rfl, by rw [List.length_append]; rfl⟩, by rw [List.length_append]; exact HX.out.1, by have := HX.out.1.hh; have := HZ.out; omega, by rw [List.length_append]; exact HX.out.2.1, HX.out.2.2.1, HX.out.2.2.2⟩
                  · skip
                    go_simp
                    refine hK.out _ _ trivial (fun hH => ?_)
                    replace hHeld := hH
                    clear hK K hH
                    try simp only [ps]
                    refine rd1 (i := 1) (by kernel_rfl) rfl (fun K hK => ?_)
                    have t0 := rblk_cell (rblk_below P_m (ba1 _ (.cells #[.bool (ofO (ofQ (2 * (u : Int) + 1) 2)).p, .slice a1.A (ofO (ofQ (2 * (u : Int) + 1) 2)).l.length a1.c, .slice a1.D (ofO (ofQ (2 * (u : Int) + 1) 2)).m.length a1.d, .bool (ofO (ofQ (2 * (v : Int) + 1) 2)).p, .slice a2.A (ofO (ofQ (2 * (v : Int) + 1) 2)).l.length a2.c, .slice a2.D (ofO (ofQ (2 * (v : Int) + 1) 2)).m.length a2.d] 39))) 0
                    go_simp
                    clear t0
                    refine hK.out _ _ trivial (fun hH => ?_)
                    replace hHeld := hH
                    clear hK K hH
                    try simp only [ps]
                    refine rd1 (i := 10) (by kernel_rfl) rfl (fun K hK => ?_)
                    refine wanted_op (by rfl) ?_
                    refine grow_pt_op (.tmp 55) (.tmp 63) rfl G ⟨(ofO (ofQ (2 * (u : Int) + 1) 2)), (ofO (ofQ (2 * (v : Int) + 1) 2)), a1, a2⟩ rfl rfl (by have := HL.out; omega) (by omega) hz0 oq apq ?_
                    intro A2 cc w2 G2 k2 _ _
                    have hz2 := k2.size
                    replace P_m := (k2.block _ (by omega)).trans P_m
                    replace P_r := (k2.block _ (by omega)).trans P_r
                    replace kb := kb.trans (k2.mono (by omega))
                    clear G oq apq k2 hz0
                    refine hK.out _ _ trivial (fun hH => ?_)
                    replace hHeld := hH
                    clear hK K hH
                    try simp only [ps]
                    refine tk (i := 11) (v := ?vg2_10) rfl (by kernel_rfl) (fun _ _ _ h => h) (Or.inl ⟨by rfl, ?hg2_10⟩) hHeld ?_
                    case hg2_10 => (intro w hSw; (try dsimp only at hSw); go_simp; (try with_reducible rfl))
                    try simp only [ps]
                    refine rd1 (i := 12) (by kernel_rfl) rfl (fun K hK => ?_)
                    have t0 := rblk_cell P_m 0
                    have q0 := rblk_free P_m 0
                    go_simp
                    clear t0 q0
                    replace P_r := rblk_other P_r 0 (.slice A2 (M.length + 1) cc) (show (w.heap.size + 1) ≠ w.heap.size by omega)
                    replace P_m := rblk_set P_m 0 (.slice A2 (M.length + 1) cc)
                    replace G2 := G2.put (g := (w.heap.size + 1)) (i := 0) (by omega) (.slice A2 (M.length + 1) cc)
                    replace kb := below_put (o := 0) kb (show w.heap.size ≤ (w.heap.size + 1) by omega) (.slice A2 (M.length + 1) cc)
                    have hz3 : (w2.setCell ⟨(w.heap.size + 1), 0, none⟩ (.slice A2 (M.length + 1) cc)).heap.size = w2.heap.size := by simp [World.setCell]
                    rw [← hz3] at G2
                    clear hz3 hz2
                    generalize w2.setCell ⟨(w.heap.size + 1), 0, none⟩ (.slice A2 (M.length + 1) cc) = w3 at *
                    refine hK.out _ _ trivial (fun hH => ?_)
                    replace hHeld := hH
                    clear hK K hH
                    try simp only [ps]
                    refine wpAnyH_done (by kernel_rfl) ?_ _
                    rw [show (#[Value.slice A M.length c, Value.slice D T.length d].setIfInBounds 0 (.slice A2 (M.length + 1) cc)) = #[.slice A2 (M.length + 1) cc, .slice D T.length d] from rfl] at P_m
                    have HZ := Lib.hid (rblk_lt P_m)
                    have HX := Lib.hid (And.intro G2 (And.intro P_m (And.intro P_r kb)))
                    clear G2 P_m P_r kb ex1 ex2 ey1 ey2
                    go_wp2_with fail
                    go_meet
                    exact ⟨M ++ [⟨(ofO (ofQ (2 * (u : Int) + 1) 2)), (ofO (ofQ (2 * (v : Int) + 1) 2)), a1, a2⟩], A2, cc, _, ⟨by rw [dat_app, HD.out.1, sqP_succ, sqMid_at hu1]; rfl, by rw [List.length_append]; rfl⟩, by rw [List.length_append]; exact HX.out.1, by have := HX.out.1.hh; have := HZ.out; omega, by rw [List.length_append]; exact HX.out.2.1, HX.out.2.2.1, HX.out.2.2.2⟩
              case rest =>
                clear G hB P_m P_r kb
                obtain ⟨M2, A2, cc, hi2, HM, G, hB, P_m, P_r, kb⟩ := hcut
                replace HM := Lib.hid HM
                go_wp2_with fail
                obtain ⟨b0, b1, b2, b3, b4⟩ := blocks5 wc (.cells #[.int .i64 ((v : Int) * 2 + (u : Int)), .int .i64 (((v : Int) * 2 + (u : Int)) + 1)] 3) (.cells #[.int .i64 (((v : Int) * 2 + (u : Int)) + 1), .int .i64 (((v : Int) * 2 + (u : Int)) + 1 + 2)] 3) (.cells #[.int .i64 (((v : Int) * 2 + (u : Int)) + 1 + 2), .int .i64 (((v : Int) * 2 + (u : Int)) + 1 + 1)] 3) (.cells #[.int .i64 (((v : Int) * 2 + (u : Int)) + 1 + 1), .int .i64 ((v : Int) * 2 + (u : Int))] 3) (.cells #[.slice (some ⟨wc.heap.size, 0, none⟩) 2 2, .slice (some ⟨wc.heap.size + 1, 0, none⟩) 2 2, .slice (some ⟨wc.heap.size + 2, 0, none⟩) 2 2, .slice (some ⟨wc.heap.size + 3, 0, none⟩) 2 2] 33)
                have hb := ba5 wc (.cells #[.int .i64 ((v : Int) * 2 + (u : Int)), .int .i64 (((v : Int) * 2 + (u : Int)) + 1)] 3) (.cells #[.int .i64 (((v : Int) * 2 + (u : Int)) + 1), .int .i64 (((v : Int) * 2 + (u : Int)) + 1 + 2)] 3) (.cells #[.int .i64 (((v : Int) * 2 + (u : Int)) + 1 + 2), .int .i64 (((v : Int) * 2 + (u : Int)) + 1 + 1)] 3) (.cells #[.int .i64 (((v : Int) * 2 + (u : Int)) + 1 + 1), .int .i64 ((v : Int) * 2 + (u : Int))] 3) (.cells #[.slice (some ⟨wc.heap.size, 0, none⟩) 2 2, .slice (some ⟨wc.heap.size + 1, 0, none⟩) 2 2, .slice (some ⟨wc.heap.size + 2, 0, none⟩) 2 2, .slice (some ⟨wc.heap.size + 3, 0, none⟩) 2 2] 33)
                have hz := G.hh
                replace P_m := rblk_below P_m hb
                replace P_r := rblk_below P_r hb
                replace G := G.below hb
                replace kb := bt kb hb
                clear hb
                generalize ((((wc.alloc (.cells #[.int .i64 ((v : Int) * 2 + (u : Int)), .int .i64 (((v : Int) * 2 + (u : Int)) + 1)] 3)).alloc (.cells #[.int .i64 (((v : Int) * 2 + (u : Int)) + 1), .int .i64 (((v : Int) * 2 + (u : Int)) + 1 + 2)] 3)).alloc (.cells #[.int .i64 (((v : Int) * 2 + (u : Int)) + 1 + 2), .int .i64 (((v : Int) * 2 + (u : Int)) + 1 + 1)] 3)).alloc (.cells #[.int .i64 (((v : Int) * 2 + (u : Int)) + 1 + 1), .int .i64 ((v : Int) * 2 + (u : Int))] 3)).alloc (.cells #[.slice (some ⟨wc.heap.size, 0, none⟩) 2 2, .slice (some ⟨wc.heap.size + 1, 0, none⟩) 2 2, .slice (some ⟨wc.heap.size + 2, 0, none⟩) 2 2, .slice (some ⟨wc.heap.size + 3, 0, none⟩) 2 2] 33) = W5 at *
                have R : Rows4 W5 wc.heap.size ((v : Int) * 2 + (u : Int)) (((v : Int) * 2 + (u : Int)) + 1) (((v : Int) * 2 + (u : Int)) + 1 + 2) (((v : Int) * 2 + (u : Int)) + 1 + 1) := rows4_mk b0 b1 b2 b3 b4
                clear b0 b1 b2 b3 b4
                generalize wc.heap.size = z at *
                have hgz : w.heap.size + 1 < z := by omega
                go_loopw [94] (fun kv w' => ∃ (j : Nat) (T2 : List TV) (D : Option Addr) (d hi : Nat), j ≤ 4 ∧ kv = .int .i64 (j : Int) ∧ T2 = T ++ (quadT (M.length : Int) ((v : Int) * 2 + (u : Int)) (((v : Int) * 2 + (u : Int)) + 1) (((v : Int) * 2 + (u : Int)) + 1 + 2) (((v : Int) * 2 + (u : Int)) + 1 + 1)).take j ∧ Rows4 w' z ((v : Int) * 2 + (u : Int)) (((v : Int) * 2 + (u : Int)) + 1) (((v : Int) * 2 + (u : Int)) + 1 + 2) (((v : Int) * 2 + (u : Int)) + 1 + 1) ∧ Gm (w.heap.size + 2) hi w' M2 T2 (.slice A2 M2.length cc) (.slice D T2.length d) ∧ w.heap.size + 2 ≤ hi ∧ w'.heap[w.heap.size + 1]? = some (.cells #[.slice A2 M2.length cc, .slice D T2.length d] 25 (0, 0)) ∧ w'.heap[w.heap.size]? = some (.cells #[.slice none 0 0, .slice none 0 0] 25 (0, 0)) ∧ Below w.heap.size w w') (fun kv _ => 4 - (intOf kv).toNat)
                case atStart => exact ⟨0, T, D, d, hi2, by omega, rfl, by simp, R, G, hB, P_m, P_r, kb⟩
                case round =>
                  clear R G hB P_m P_r kb hz
                  obtain ⟨j, T2, D, d, hi, hj, rfl, hT2, R, G, hB, P_m, P_r, kb⟩ := hrel
                  have hl2 : T2.length = T.length + ((quadT (M.length : Int) ((v : Int) * 2 + (u : Int)) (((v : Int) * 2 + (u : Int)) + 1) (((v : Int) * 2 + (u : Int)) + 1 + 2) (((v : Int) * 2 + (u : Int)) + 1 + 1)).take j).length := by rw [hT2, List.length_append]
                  have HT2 := Lib.hid hT2
                  clear hT2
                  by_cases hj1 : j < 4
                  · have hj2 : (j : Int) < 4 := by omega
                    have hl3 : T2.length ≤ 40 := by have h1 := HL.out; rw [hl2, List.length_take]; have : (quadT (M.length : Int) ((v : Int) * 2 + (u : Int)) (((v : Int) * 2 + (u : Int)) + 1) (((v : Int) * 2 + (u : Int)) + 1 + 2) (((v : Int) * 2 + (u : Int)) + 1 + 1)).length = 4 := rfl; omega
                    clear hl2
                    obtain ⟨cs, h4, hc⟩ := R.2
                    have c4 : wr.cell? ⟨z + 4, j, none⟩ = some (.slice (some ⟨z + j, 0, none⟩) 2 2) := (rblk_cell h4 j).trans (hc j hj1)
                    clear h4 hc
                    go_wp2_with fail
                    clear c4
                    have hd0 : Below wr.heap.size wr wr.drew := (Below.refl _ _).drew
                    replace P_m := rblk_below P_m hd0
                    replace P_r := rblk_below P_r hd0
                    replace G := G.below hd0
                    replace kb := bt kb hd0
                    replace R := R.below hd0
                    clear hd0
                    refine wp_region_held_drew (S := fun w' => w'.heap[z + j]? = some (.cells #[.int .i64 (qa ((v : Int) * 2 + (u : Int)) (((v : Int) * 2 + (u : Int)) + 1) (((v : Int) * 2 + (u : Int)) + 1 + 2) (((v : Int) * 2 + (u : Int)) + 1 + 1) j), .int .i64 (qa (((v : Int) * 2 + (u : Int)) + 1) (((v : Int) * 2 + (u : Int)) + 1 + 2) (((v : Int) * 2 + (u : Int)) + 1 + 1) ((v : Int) * 2 + (u : Int)) j)] 3 (0, 0))) (by kernel_rfl) (R.1 j hj1) (fun hHeld => ?_)
                    generalize wr.drew = Wd at *
                    refine tk (i := 0) (v := ?vg3_1) rfl (by kernel_rfl) (fun _ _ _ h => h) (Or.inl ⟨by rfl, ?hg3_1⟩) hHeld ?_
                    case hg3_1 => (intro w hSw; (try dsimp only at hSw); go_simp; (try with_reducible rfl))
                    try simp only [ps]
                    refine tk (i := 2) (v := ?vg3_2) rfl (by kernel_rfl) (fun _ _ _ h => h) (Or.inl ⟨by rfl, ?hg3_2⟩) hHeld ?_
                    case hg3_2 => (intro w hSw; (try dsimp only at hSw); go_simp; (try with_reducible rfl))
                    try simp only [ps]
                    refine tk (i := 3) (v := ?vg3_3) rfl (by kernel_rfl) (fun _ _ _ h => h) (Or.inl ⟨by rfl, ?hg3_3⟩) hHeld ?_
                    case hg3_3 => (intro w hSw; (try dsimp only at hSw); go_simp; (try with_reducible rfl))
                    try simp only [ps]
                    refine tk (i := 4) (v := ?vg3_4) rfl (by kernel_rfl) (fun _ _ _ h => h) (Or.inl ⟨by rfl, ?hg3_4⟩) hHeld ?_
                    case hg3_4 => (intro w hSw; (try dsimp only at hSw); go_simp; (try with_reducible rfl))
                    try simp only [ps]
                    refine tk (i := 5) (v := ?vg3_5) rfl (by kernel_rfl) (fun _ _ _ h => h) (Or.inl ⟨by rfl, ?hg3_5⟩) hHeld ?_
                    case hg3_5 => (intro w hSw; (try dsimp only at hSw); have s0 := rblk_cell hSw 0; go_simp; (try with_reducible rfl))
                    try simp only [ps]
                    refine tk (i := 6) (v := ?vg3_6) rfl (by kernel_rfl) (fun _ _ _ h => h) (Or.inl ⟨by rfl, ?hg3_6⟩) hHeld ?_
                    case hg3_6 => (intro w hSw; (try dsimp only at hSw); go_simp; (try with_reducible rfl))
                    try simp only [ps]
                    refine tk (i := 7) (v := ?vg3_7) rfl (by kernel_rfl) (fun _ _ _ h => h) (Or.inl ⟨by rfl, ?hg3_7⟩) hHeld ?_
                    case hg3_7 => (intro w hSw; (try dsimp only at hSw); go_simp; (try with_reducible rfl))
                    try simp only [ps]
                    refine tk (i := 8) (v := ?vg3_8) rfl (by kernel_rfl) (fun _ _ _ h => h) (Or.inl ⟨by rfl, ?hg3_8⟩) hHeld ?_
                    case hg3_8 => (intro w hSw; (try dsimp only at hSw); have s1 := rblk_cell hSw 1; go_simp; (try with_reducible rfl))
                    try simp only [ps]
                    refine tk (i := 9) (v := ?vg3_9) rfl (by kernel_rfl) (fun _ _ _ h => h) (Or.inl ⟨by rfl, ?hg3_9⟩) hHeld ?_
                    case hg3_9 => (intro w hSw; (try dsimp only at hSw); go_simp; (try with_reducible rfl))
                    try simp only [ps]
                    refine wpAnyH_ready (rs := [1, 10]) (by kernel_rfl) (by simp) ?_
                    refine rc1 rfl (fun K hK => ?_) (rc1 rfl (fun K hK => ?_) AllReadyH.nil)
                    · skip
                      have t0 := rblk_cell P_m 1
                      go_simp
                      clear t0
                      refine hK.out _ _ (R.1 j hj1) (fun hH => ?_)
                      replace hHeld := hH
                      clear hK K hH
                      try simp only [ps]
                      refine rd1 (i := 10) (by kernel_rfl) rfl (fun K hK => ?_)
                      go_simp
                      refine hK.out _ _ ((R.below (ba1 _ _)).1 j hj1) (fun hH => ?_)
                      replace hHeld := hH
                      clear hK K hH
                      try simp only [ps]
                      refine rd1 (i := 11) (by kernel_rfl) rfl (fun K hK => ?_)
                      have hz0 := G.hh
                      have hsz := sz1 Wd (.cells #[.int .i64 (M.length : Int), .int .i64 (qa ((v : Int) * 2 + (u : Int)) (((v : Int) * 2 + (u : Int)) + 1) (((v : Int) * 2 + (u : Int)) + 1 + 2) (((v : Int) * 2 + (u : Int)) + 1 + 1) j), .int .i64 (qa (((v : Int) * 2 + (u : Int)) + 1) (((v : Int) * 2 + (u : Int)) + 1 + 2) (((v : Int) * 2 + (u : Int)) + 1 + 1) ((v : Int) * 2 + (u : Int)) j), .int .i64 0, .int .i64 0] 43)
                      have GA := G.below (ba1 Wd (.cells #[.int .i64 (M.length : Int), .int .i64 (qa ((v : Int) * 2 + (u : Int)) (((v : Int) * 2 + (u : Int)) + 1) (((v : Int) * 2 + (u : Int)) + 1 + 2) (((v : Int) * 2 + (u : Int)) + 1 + 1) j), .int .i64 (qa (((v : Int) * 2 + (u : Int)) + 1) (((v : Int) * 2 + (u : Int)) + 1 + 2) (((v : Int) * 2 + (u : Int)) + 1 + 1) ((v : Int) * 2 + (u : Int)) j), .int .i64 0, .int .i64 0] 43))
                      have RA := R.below (ba1 Wd (.cells #[.int .i64 (M.length : Int), .int .i64 (qa ((v : Int) * 2 + (u : Int)) (((v : Int) * 2 + (u : Int)) + 1) (((v : Int) * 2 + (u : Int)) + 1 + 2) (((v : Int) * 2 + (u : Int)) + 1 + 1) j), .int .i64 (qa (((v : Int) * 2 + (u : Int)) + 1) (((v : Int) * 2 + (u : Int)) + 1 + 2) (((v : Int) * 2 + (u : Int)) + 1 + 1) ((v : Int) * 2 + (u : Int)) j), .int .i64 0, .int .i64 0] 43))
                      have CA := cell_tri Wd ⟨(M.length : Int), qa ((v : Int) * 2 + (u : Int)) (((v : Int) * 2 + (u : Int)) + 1) (((v : Int) * 2 + (u : Int)) + 1 + 2) (((v : Int) * 2 + (u : Int)) + 1 + 1) j, qa (((v : Int) * 2 + (u : Int)) + 1) (((v : Int) * 2 + (u : Int)) + 1 + 2) (((v : Int) * 2 + (u : Int)) + 1 + 1) ((v : Int) * 2 + (u : Int)) j, 0, 0⟩
                      have P_m' := rblk_below P_m (ba1 Wd (.cells #[.int .i64 (M.length : Int), .int .i64 (qa ((v : Int) * 2 + (u : Int)) (((v : Int) * 2 + (u : Int)) + 1) (((v : Int) * 2 + (u : Int)) + 1 + 2) (((v : Int) * 2 + (u : Int)) + 1 + 1) j), .int .i64 (qa (((v : Int) * 2 + (u : Int)) + 1) (((v : Int) * 2 + (u : Int)) + 1 + 2) (((v : Int) * 2 + (u : Int)) + 1 + 1) ((v : Int) * 2 + (u : Int)) j), .int .i64 0, .int .i64 0] 43))
                      have P_r' := rblk_below P_r (ba1 Wd (.cells #[.int .i64 (M.length : Int), .int .i64 (qa ((v : Int) * 2 + (u : Int)) (((v : Int) * 2 + (u : Int)) + 1) (((v : Int) * 2 + (u : Int)) + 1 + 2) (((v : Int) * 2 + (u : Int)) + 1 + 1) j), .int .i64 (qa (((v : Int) * 2 + (u : Int)) + 1) (((v : Int) * 2 + (u : Int)) + 1 + 2) (((v : Int) * 2 + (u : Int)) + 1 + 1) ((v : Int) * 2 + (u : Int)) j), .int .i64 0, .int .i64 0] 43))
                      have kb' := bt kb (ba1 Wd (.cells #[.int .i64 (M.length : Int), .int .i64 (qa ((v : Int) * 2 + (u : Int)) (((v : Int) * 2 + (u : Int)) + 1) (((v : Int) * 2 + (u : Int)) + 1 + 2) (((v : Int) * 2 + (u : Int)) + 1 + 1) j), .int .i64 (qa (((v : Int) * 2 + (u : Int)) + 1) (((v : Int) * 2 + (u : Int)) + 1 + 2) (((v : Int) * 2 + (u : Int)) + 1 + 1) ((v : Int) * 2 + (u : Int)) j), .int .i64 0, .int .i64 0] 43))
                      refine wanted_op (by rfl) ?_
                      refine grow_tri_op (.tmp 99) (.tmp 108) rfl GA [⟨(M.length : Int), qa ((v : Int) * 2 + (u : Int)) (((v : Int) * 2 + (u : Int)) + 1) (((v : Int) * 2 + (u : Int)) + 1 + 2) (((v : Int) * 2 + (u : Int)) + 1 + 1) j, qa (((v : Int) * 2 + (u : Int)) + 1) (((v : Int) * 2 + (u : Int)) + 1 + 2) (((v : Int) * 2 + (u : Int)) + 1 + 1) ((v : Int) * 2 + (u : Int)) j, 0, 0⟩] ⟨Wd.heap.size, 0, none⟩ 1 rfl rfl CA (by simp only [List.length_cons, List.length_nil]; omega) (by omega) ?_
                      intro D2 dd w5 G5 k5 _ kp
                      have R5 := RA.keep (fun i hi => kp _ (RA.off GA.ot i hi) (by have := RA.lt; omega))
                      have hz5 := k5.size
                      replace P_m := (k5.block _ (by omega)).trans P_m'
                      replace P_r := (k5.block _ (by omega)).trans P_r'
                      replace kb := kb'.trans (k5.mono (by omega))
                      clear G GA R RA CA P_m' P_r' kb' k5 kp
                      refine hK.out _ _ (R5.1 j hj1) (fun hH => ?_)
                      replace hHeld := hH
                      clear hK K hH
                      try simp only [ps]
                      refine tk (i := 12) (v := ?vg3_10) rfl (by kernel_rfl) (fun _ _ _ h => h) (Or.inl ⟨by rfl, ?hg3_10⟩) hHeld ?_
                      case hg3_10 => (intro w hSw; (try dsimp only at hSw); go_simp; (try with_reducible rfl))
                      try simp only [ps]
                      refine rd1 (i := 13) (by kernel_rfl) rfl (fun K hK => ?_)
                      have t0 := rblk_cell P_m 1
                      have q0 := rblk_free P_m 1
                      go_simp
                      clear t0 q0
                      replace P_r := rblk_other P_r 1 (.slice D2 (T2.length + 1) dd) (show (w.heap.size + 1) ≠ w.heap.size by omega)
                      replace R5 := R5.put (g := (w.heap.size + 1)) (i := 1) hgz (.slice D2 (T2.length + 1) dd)
                      replace P_m := rblk_set P_m 1 (.slice D2 (T2.length + 1) dd)
                      replace G5 := G5.put (g := (w.heap.size + 1)) (i := 1) (by omega) (.slice D2 (T2.length + 1) dd)
                      replace kb := below_put (o := 1) kb (show w.heap.size ≤ (w.heap.size + 1) by omega) (.slice D2 (T2.length + 1) dd)
                      have hz3 : (w5.setCell ⟨(w.heap.size + 1), 1, none⟩ (.slice D2 (T2.length + 1) dd)).heap.size = w5.heap.size := by simp [World.setCell]
                      rw [← hz3] at G5 hz5
                      clear hz3
                      generalize w5.setCell ⟨(w.heap.size + 1), 1, none⟩ (.slice D2 (T2.length + 1) dd) = w6 at *
                      refine hK.out _ _ (R5.1 j hj1) (fun hH => ?_)
                      replace hHeld := hH
                      clear hK K hH
                      try simp only [ps]
                      refine wpAnyH_done (by kernel_rfl) ?_ _
                      rw [show (#[Value.slice A2 M2.length cc, Value.slice D T2.length d].setIfInBounds 1 (.slice D2 (T2.length + 1) dd)) = #[.slice A2 M2.length cc, .slice D2 (T2.length + 1) dd] from rfl] at P_m
                      have HZ : Hid (w.heap.size + 2 ≤ w6.heap.size) := Lib.hid (by omega)
                      have HX := Lib.hid (And.intro R5 (And.intro G5 (And.intro P_m (And.intro P_r kb))))
                      clear R5 G5 P_m P_r kb hHeld hz0 hsz hz5
                      go_wp2
                      go_roundw
                      case rel => exact ⟨j + 1, T2 ++ [⟨(M.length : Int), qa ((v : Int) * 2 + (u : Int)) (((v : Int) * 2 + (u : Int)) + 1) (((v : Int) * 2 + (u : Int)) + 1 + 2) (((v : Int) * 2 + (u : Int)) + 1 + 1) j, qa (((v : Int) * 2 + (u : Int)) + 1) (((v : Int) * 2 + (u : Int)) + 1 + 2) (((v : Int) * 2 + (u : Int)) + 1 + 1) ((v : Int) * 2 + (u : Int)) j, 0, 0⟩], D2, dd, _, by omega, by go_num, by rw [HT2.out, quad_take _ _ _ _ _ hj1, List.append_assoc], HX.out.1, by rw [List.length_append]; exact HX.out.2.1, HZ.out, by rw [List.length_append]; exact HX.out.2.2.1, HX.out.2.2.2.1, HX.out.2.2.2.2⟩
                      case measure => simp [intOf]; omega
                    · skip
                      go_simp
                      refine hK.out _ _ ((R.below (ba1 _ _)).1 j hj1) (fun hH => ?_)
                      replace hHeld := hH
                      clear hK K hH
                      try simp only [ps]
                      refine rd1 (i := 1) (by kernel_rfl) rfl (fun K hK => ?_)
                      have t0 := rblk_cell (rblk_below P_m (ba1 _ (.cells #[.int .i64 (M.length : Int), .int .i64 (qa ((v : Int) * 2 + (u : Int)) (((v : Int) * 2 + (u : Int)) + 1) (((v : Int) * 2 + (u : Int)) + 1 + 2) (((v : Int) * 2 + (u : Int)) + 1 + 1) j), .int .i64 (qa (((v : Int) * 2 + (u : Int)) + 1) (((v : Int) * 2 + (u : Int)) + 1 + 2) (((v : Int) * 2 + (u : Int)) + 1 + 1) ((v : Int) * 2 + (u : Int)) j), .int .i64 0, .int .i64 0] 43))) 1
                      go_simp
                      clear t0
                      refine hK.out _ _ ((R.below (ba1 _ _)).1 j hj1) (fun hH => ?_)
                      replace hHeld := hH
                      clear hK K hH
                      try simp only [ps]
                      refine rd1 (i := 11) (by kernel_rfl) rfl (fun K hK => ?_)
                      have hz0 := G.hh
                      have hsz := sz1 Wd (.cells #[.int .i64 (M.length : Int), .int .i64 (qa ((v : Int) * 2 + (u : Int)) (((v : Int) * 2 + (u : Int)) + 1) (((v : Int) * 2 + (u : Int)) + 1 + 2) (((v : Int) * 2 + (u : Int)) + 1 + 1) j), .int .i64 (qa (((v : Int) * 2 + (u : Int)) + 1) (((v : Int) * 2 + (u : Int)) + 1 + 2) (((v : Int) * 2 + (u : Int)) + 1 + 1) ((v : Int) * 2 + (u : Int)) j), .int .i64 0, .int .i64 0] 43)
                      have GA := G.below (ba1 Wd (.cells #[.int .i64 (M.length : Int), .int .i64 (qa ((v : Int) * 2 + (u : Int)) (((v : Int) * 2 + (u : Int)) + 1) (((v : Int) * 2 + (u : Int)) + 1 + 2) (((v : Int) * 2 + (u : Int)) + 1 + 1) j), .int .i64 (qa (((v : Int) * 2 + (u : Int)) + 1) (((v : Int) * 2 + (u : Int)) + 1 + 2) (((v : Int) * 2 + (u : Int)) + 1 + 1) ((v : Int) * 2 + (u : Int)) j), .int .i64 0, .int .i64 0] 43))
                      have RA := R.below (ba1 Wd (.cells #[.int .i64 (M.length : Int), .int .i64 (qa ((v : Int) * 2 + (u : Int)) (((v : Int) * 2 + (u : Int)) + 1) (((v : Int) * 2 + (u : Int)) + 1 + 2) (((v : Int) * 2 + (u : Int)) + 1 + 1) j), .int .i64 (qa (((v : Int) * 2 + (u : Int)) + 1) (((v : Int) * 2 + (u : Int)) + 1 + 2) (((v : Int) * 2 + (u : Int)) + 1 + 1) ((v : Int) * 2 + (u : Int)) j), .int .i64 0, .int .i64 0] 43))
                      have CA := cell_tri Wd ⟨(M.length : Int), qa ((v : Int) * 2 + (u : Int)) (((v : Int) * 2 + (u : Int)) + 1) (((v : Int) * 2 + (u : Int)) + 1 + 2) (((v : Int) * 2 + (u : Int)) + 1 + 1) j, qa (((v : Int) * 2 + (u : Int)) + 1) (((v : Int) * 2 + (u : Int)) + 1 + 2) (((v : Int) * 2 + (u : Int)) + 1 + 1) ((v : Int) * 2 + (u : Int)) j, 0, 0⟩
                      have P_m' := rblk_below P_m (ba1 Wd (.cells #[.int .i64 (M.length : Int), .int .i64 (qa ((v : Int) * 2 + (u : Int)) (((v : Int) * 2 + (u : Int)) + 1) (((v : Int) * 2 + (u : Int)) + 1 + 2) (((v : Int) * 2 + (u : Int)) + 1 + 1) j), .int .i64 (qa (((v : Int) * 2 + (u : Int)) + 1) (((v : Int) * 2 + (u : Int)) + 1 + 2) (((v : Int) * 2 + (u : Int)) + 1 + 1) ((v : Int) * 2 + (u : Int)) j), .int .i64 0, .int .i64 0] 43))
                      have P_r' := rblk_below P_r (ba1 Wd (.cells #[.int .i64 (M.length : Int), .int .i64 (qa ((v : Int) * 2 + (u : Int)) (((v : Int) * 2 + (u : Int)) + 1) (((v : Int) * 2 + (u : Int)) + 1 + 2) (((v : Int) * 2 + (u : Int)) + 1 + 1) j), .int .i64 (qa (((v : Int) * 2 + (u : Int)) + 1) (((v : Int) * 2 + (u : Int)) + 1 + 2) (((v : Int) * 2 + (u : Int)) + 1 + 1) ((v : Int) * 2 + (u : Int)) j), .int .i64 0, .int .i64 0] 43))
                      have kb' := bt kb (ba1 Wd (.cells #[.int .i64 (M.length : Int), .int .i64 (qa ((v : Int) * 2 + (u : Int)) (((v : Int) * 2 + (u : Int)) + 1) (((v : Int) * 2 + (u : Int)) + 1 + 2) (((v : Int) * 2 + (u : Int)) + 1 + 1) j), .int .i64 (qa (((v : Int) * 2 + (u : Int)) + 1) (((v : Int) * 2 + (u : Int)) + 1 + 2) (((v : Int) * 2 + (u : Int)) + 1 + 1) ((v : Int) * 2 + (u : Int)) j), .int .i64 0, .int .i64 0] 43))
                      refine wanted_op (by rfl) ?_
                      refine grow_tri_op (.tmp 99) (.tmp 108) rfl GA [⟨(M.length : Int), qa ((v : Int) * 2 + (u : Int)) (((v : Int) * 2 + (u : Int)) + 1) (((v : Int) * 2 + (u : Int)) + 1 + 2) (((v : Int) * 2 + (u : Int)) + 1 + 1) j, qa (((v : Int) * 2 + (u : Int)) + 1) (((v : Int) * 2 + (u : Int)) + 1 + 2) (((v : Int) * 2 + (u : Int)) + 1 + 1) ((v : Int) * 2 + (u : Int)) j, 0, 0⟩] ⟨Wd.heap.size, 0, none⟩ 1 rfl rfl CA (by simp only [List.length_cons, List.length_nil]; omega) (by omega) ?_
                      intro D2 dd w5 G5 k5 _ kp
                      have R5 := RA.keep (fun i hi => kp _ (RA.off GA.ot i hi) (by have := RA.lt; omega))
                      have hz5 := k5.size
                      replace P_m := (k5.block _ (by omega)).trans P_m'
                      replace P_r := (k5.block _ (by omega)).trans P_r'
                      replace kb := kb'.trans (k5.mono (by omega))
                      clear G GA R RA CA P_m' P_r' kb' k5 kp
                      refine hK.out _ _ (R5.1 j hj1) (fun hH => ?_)
                      replace hHeld := hH
                      clear hK K hH
                      try simp only [ps]
                      refine tk (i := 12) (v := ?vg3_11) rfl (by kernel_rfl) (fun _ _ _ h => h) (Or.inl ⟨by rfl, ?hg3_11⟩) hHeld ?_
                      case hg3_11 => (intro w hSw; (try dsimp only at hSw); go_simp; (try with_reducible rfl))
                      try simp only [ps]
                      refine rd1 (i := 13) (by kernel_rfl) rfl (fun K hK => ?_)
                      have t0 := rblk_cell P_m 1
                      have q0 := rblk_free P_m 1
                      go_simp
                      clear t0 q0
                      replace P_r := rblk_other P_r 1 (.slice D2 (T2.length + 1) dd) (show (w.heap.size + 1) ≠ w.heap.size by omega)
                      replace R5 := R5.put (g := (w.heap.size + 1)) (i := 1) hgz (.slice D2 (T2.length + 1) dd)
                      replace P_m := rblk_set P_m 1 (.slice D2 (T2.length + 1) dd)
                      replace G5 := G5.put (g := (w.heap.size + 1)) (i := 1) (by omega) (.slice D2 (T2.length + 1) dd)
                      replace kb := below_put (o := 1) kb (show w.heap.size ≤ (w.heap.size + 1) by omega) (.slice D2 (T2.length + 1) dd)
                      have hz3 : (w5.setCell ⟨(w.heap.size + 1), 1, none⟩ (.slice D2 (T2.length + 1) dd)).heap.size = w5.heap.size := by simp [World.setCell]
                      rw [← hz3] at G5 hz5
                      clear hz3
                      generalize w5.setCell ⟨(w.heap.size + 1), 1, none⟩ (.slice D2 (T2.length + 1) dd) = w6 at *
                      refine hK.out _ _ (R5.1 j hj1) (fun hH => ?_)
                      replace hHeld := hH
                      clear hK K hH
                      try simp only [ps]
                      refine wpAnyH_done (by kernel_rfl) ?_ _
                      rw [show (#[Value.slice A2 M2.length cc, Value.slice D T2.length d].setIfInBounds 1 (.slice D2 (T2.length + 1) dd)) = #[.slice A2 M2.length cc, .slice D2 (T2.length + 1) dd] from rfl] at P_m
                      have HZ : Hid (w.heap.size + 2 ≤ w6.heap.size) := Lib.hid (by omega)
                      have HX := Lib.hid (And.intro R5 (And.intro G5 (And.intro P_m (And.intro P_r kb))))
                      clear R5 G5 P_m P_r kb hHeld hz0 hsz hz5
                      go_wp2
                      go_roundw
                      case rel => exact ⟨j + 1, T2 ++ [⟨(M.length : Int), qa ((v : Int) * 2 + (u : Int)) (((v : Int) * 2 + (u : Int)) + 1) (((v : Int) * 2 + (u : Int)) + 1 + 2) (((v : Int) * 2 + (u : Int)) + 1 + 1) j, qa (((v : Int) * 2 + (u : Int)) + 1) (((v : Int) * 2 + (u : Int)) + 1 + 2) (((v : Int) * 2 + (u : Int)) + 1 + 1) ((v : Int) * 2 + (u : Int)) j, 0, 0⟩], D2, dd, _, by omega, by go_num, by rw [HT2.out, quad_take _ _ _ _ _ hj1, List.append_assoc], HX.out.1, by rw [List.length_append]; exact HX.out.2.1, HZ.out, by rw [List.length_append]; exact HX.out.2.2.1, HX.out.2.2.2.1, HX.out.2.2.2.2⟩
                      case measure => simp [intOf]; omega
                  · have hj2 : ¬ (j : Int) < 4 := by omega
                    have e4 : T2 = sqT 1 (v * 1 + (u + 1)) := by
                      rw [HT2.out, show j = 4 by omega, ← Nat.add_assoc, sqT_succ, HD.out.2]; congr 1; have := HE.out; exact quad_eq (by omega) (by rw [sqLow_at hu1]; omega) (by rw [sqLow_at hu1]; omega) (by rw [sqLow_at hu1]; omega) (by rw [sqLow_at hu1]; omega)
                    have HX := Lib.hid (And.intro e4 (And.intro G (And.intro hB (And.intro P_m (And.intro P_r kb)))))
                    clear e4 R G hB P_m P_r kb hl2
                    go_wp2
                    go_roundw
                    case rel => exact ⟨u + 1, M2, T2, A2, D, cc, d, hi, by omega, by go_num, by rw [HM.out.1, Nat.add_assoc], HX.out⟩
                    case measure => simp [intOf]; omega
            · have hu2 : ¬ (u : Int) < 1 := by omega
              have HX := Lib.hid (And.intro G (And.intro hB (And.intro P_m (And.intro P_r kb))))
              clear G hB P_m P_r kb
              go_wp2
              go_roundw
              case rel => exact ⟨v + 1, M, T, A, D, c, d, hi, by omega, by go_num, by rw [HD.out.1]; congr 1; omega, by rw [HD.out.2]; congr 1; omega, HX.out⟩
              case measure => simp [intOf]; omega
        · have hv2 : ¬ (v : Int) < 1 := by omega
          obtain rfl : v = 1 := by omega
          have r0 := rblk_cell P_r 0
          have r1 := rblk_cell P_r 1
          have q0 := rblk_free P_r 0
          have q1 := rblk_free P_r 1
          have HX := Lib.hid (((G.put (g := w.heap.size) (i := 0) (by omega) (.slice A M.length c)).put (g := w.heap.size) (i := 1) (by omega) (.slice D T.length d)).made (B0 := w.heap.size) (m := mvOf (sqP 1 1) (sqT 1 1)) (by omega) (by rw [datM_of, hd, hT]) (w := w) (below_put (o := 1) (below_put (o := 0) kb (Nat.le_refl _) (.slice A M.length c)) (Nat.le_refl _) (.slice D T.length d)))
          have PZ := rblk_set (rblk_set P_r 0 (.slice A M.length c)) 1 (.slice D T.length d)
          have z0 := rblk_cell PZ 0
          have z1 := rblk_cell PZ 1
          have t0 := rblk_cell P_m 0
          have t1 := rblk_cell P_m 1
          clear hd hT
          go_wp2
          exact bodyPost_ret (v := .agg #[.slice A M.length c, .slice D T.length d]) (by simp [results, Try.results5, go_sem, z0, z1]) rfl HX.out
set_option maxHeartbeats 16000000 in
theorem spec_square_2 (w : World) :
    Calls Try.prog 5 #[.int .i64 2] w (MadeMi w.heap.size (mvOf (sqP 2 4) (sqT 2 4)) w) := by
  have HI := Lib.hid (fun W => l01In_r 2 1 3 W)
  rw [show (decide ((1 : Int) ≤ 2) && decide ((2 : Int) ≤ 3)) = true by decide] at HI
  have HP := Lib.hid (fun (x y : Nat) W (h : x < 5) (h' : y < 5) => spec_pointAt (x : Int) (y : Int) W (by omega) (by omega))
  have HQ := Lib.hid (fun (x y : Nat) W (h : x < 5) (h' : y < 5) => spec_halfP (2 * (x : Int) + 1) (2 * (y : Int) + 1) W (by omega) (by omega))
  unfold MadeP at HP HQ
  go_enter Try.func5, Try.ntmps5
  go_wp2_with fail
  have kb := ba2 w (.cells #[.slice none 0 0, .slice none 0 0] 25) (.cells #[.slice none 0 0, .slice none 0 0] 25)
  obtain ⟨P_r, P_m⟩ := blocks2 w (.cells #[.slice none 0 0, .slice none 0 0] 25) (.cells #[.slice none 0 0, .slice none 0 0] 25)
  generalize (w.alloc (.cells #[.slice none 0 0, .slice none 0 0] 25)).alloc (.cells #[.slice none 0 0, .slice none 0 0] 25) = W1 at kb P_r P_m ⊢
  refine (HI.out _).mono ?_
  rintro e W2 ⟨rfl, hb⟩
  replace P_m := rblk_below P_m hb
  replace P_r := rblk_below P_r hb
  replace kb := bt kb hb
  clear hb
  have hs0 := rblk_lt P_m
  have G : Gm (w.heap.size + 2) W2.heap.size W2 [] [] (.slice none 0 0) (.slice none 0 0) := Gm.start (Nat.le_refl _)
  go_wp2_with fail
  go_loopw [4] (fun yv w' => ∃ (y : Nat) (M : List PV) (T : List TV) (A D : Option Addr) (c d hi : Nat), y ≤ 3 ∧ yv = .int .i64 (y : Int) ∧ dat M = sqG 2 (y * 3) ∧ T = [] ∧ Gm (w.heap.size + 2) hi w' M T (.slice A M.length c) (.slice D T.length d) ∧ w.heap.size + 2 ≤ hi ∧ w'.heap[w.heap.size + 1]? = some (.cells #[.slice A M.length c, .slice D T.length d] 25 (0, 0)) ∧ w'.heap[w.heap.size]? = some (.cells #[.slice none 0 0, .slice none 0 0] 25 (0, 0)) ∧ Below w.heap.size w w') (fun yv _ => 3 - (intOf yv).toNat)
  case atStart => exact ⟨0, [], [], none, none, 0, 0, _, by omega, rfl, rfl, rfl, G, hs0, P_m, P_r, kb⟩
  case round =>
    clear G hs0 P_m P_r kb
    obtain ⟨y, M, T, A, D, c, d, hi, hy, rfl, hd, hT, G, hB, P_m, P_r, kb⟩ := hrel
    subst hT
    by_cases hlt : y < 3
    · have hy1 : (y : Int) ≤ 2 := by omega
      go_wp2_with fail
      go_loopw [5] (fun xv w' => ∃ (x : Nat) (M : List PV) (T : List TV) (A D : Option Addr) (c d hi : Nat), x ≤ 3 ∧ xv = .int .i64 (x : Int) ∧ dat M = sqG 2 (y * 3 + x) ∧ T = [] ∧ Gm (w.heap.size + 2) hi w' M T (.slice A M.length c) (.slice D T.length d) ∧ w.heap.size + 2 ≤ hi ∧ w'.heap[w.heap.size + 1]? = some (.cells #[.slice A M.length c, .slice D T.length d] 25 (0, 0)) ∧ w'.heap[w.heap.size]? = some (.cells #[.slice none 0 0, .slice none 0 0] 25 (0, 0)) ∧ Below w.heap.size w w') (fun xv _ => 3 - (intOf xv).toNat)
      case atStart => exact ⟨0, M, [], A, D, c, d, hi, by omega, rfl, hd, rfl, G, hB, P_m, P_r, kb⟩
      case round =>
        clear hd G hB P_m P_r kb
        obtain ⟨x, M, T, A, D, c, d, hi, hx, rfl, hd, hT, G, hB, P_m, P_r, kb⟩ := hrel
        subst hT
        have hl : M.length = y * 3 + x := by have := congrArg List.length hd; rw [sqG_len] at this; simpa [dat] using this
        have HL : Hid (M.length ≤ 16) := Lib.hid (by omega)
        have HD := Lib.hid hd
        clear hd hl
        by_cases hx1 : x < 3
        · have hx2 : (x : Int) ≤ 2 := by omega
          go_wp2_with fail
          have hd0 : Below wr.heap.size wr wr.drew := (Below.refl _ _).drew
          replace P_m := rblk_below P_m hd0
          replace P_r := rblk_below P_r hd0
          replace G := G.below hd0
          replace kb := bt kb hd0
          clear hd0
          refine wp_region_held_drew (S := fun w' => True) (by kernel_rfl) trivial (fun hHeld => ?_)
          generalize wr.drew = Wd at *
          refine tk (i := 0) (v := ?vg4_1) rfl (by kernel_rfl) (fun _ _ _ h => h) (Or.inl ⟨by rfl, ?hg4_1⟩) hHeld ?_
          case hg4_1 => (intro w hSw; (try dsimp only at hSw); go_simp; (try with_reducible rfl))
          try simp only [ps]
          refine tk (i := 2) (v := ?vg4_2) rfl (by kernel_rfl) (fun _ _ _ h => h) (Or.inl ⟨by rfl, ?hg4_2⟩) hHeld ?_
          case hg4_2 => (intro w hSw; (try dsimp only at hSw); go_simp; (try with_reducible rfl))
          try simp only [ps]
          refine tk (i := 3) (v := ?vg4_3) rfl (by kernel_rfl) (fun _ _ _ h => h) (Or.inl ⟨by rfl, ?hg4_3⟩) hHeld ?_
          case hg4_3 => (intro w hSw; (try dsimp only at hSw); go_simp; (try with_reducible rfl))
          try simp only [ps]
          refine wpAnyH_ready (rs := [1, 4]) (by kernel_rfl) (by simp) ?_
          refine rc1 rfl (fun K hK => ?_) (rc1 rfl (fun K hK => ?_) AllReadyH.nil)
          · skip
            have t0 := rblk_cell P_m 0
            go_simp
            clear t0
            refine hK.out _ _ trivial (fun hH => ?_)
            replace hHeld := hH
            clear hK K hH
            try simp only [ps]
            refine rd1 (i := 4) (by kernel_rfl) rfl (fun K hK => ?_)
            have hz0 := G.hh
            go_simp
            (go_at_call 13; ((with_reducible refine (HP.out x y _ (by omega) (by omega)).mono ?_); rintro e Wc ⟨a1, a2, rfl, hcs, oq, apq, hb⟩))
            replace P_m := rblk_below P_m hb
            replace P_r := rblk_below P_r hb
            replace G := G.below hb
            replace kb := bt kb hb
            clear hb hcs
            refine hK.out _ _ trivial (fun hH => ?_)
            replace hHeld := hH
            clear hK K hH
            try simp only [ps]
            refine rd1 (i := 5) (by kernel_rfl) rfl (fun K hK => ?_)
            go_simp
            refine hK.out _ _ trivial (fun hH => ?_)
            replace hHeld := hH
            clear hK K hH
            try simp only [ps]
            refine rd1 (i := 6) (by kernel_rfl) rfl (fun K hK => ?_)
            refine wanted_op (by rfl) ?_
            refine grow_pt_op (.tmp 28) (.tmp 32) rfl G ⟨(rfi (x : Int)), (rfi (y : Int)), a1, a2⟩ rfl rfl (by have := HL.out; omega) (by omega) hz0 oq apq ?_
            intro A2 cc w2 G2 k2 _ _
            have hz2 := k2.size
            replace P_m := (k2.block _ (by omega)).trans P_m
            replace P_r := (k2.block _ (by omega)).trans P_r
            replace kb := kb.trans (k2.mono (by omega))
            clear G oq apq k2 hz0
            refine hK.out _ _ trivial (fun hH => ?_)
            replace hHeld := hH
            clear hK K hH
            try simp only [ps]
            refine tk (i := 7) (v := ?vg4_4) rfl (by kernel_rfl) (fun _ _ _ h => h) (Or.inl ⟨by rfl, ?hg4_4⟩) hHeld ?_
            case hg4_4 => (intro w hSw; (try dsimp only at hSw); go_simp; (try with_reducible rfl))
            try simp only [ps]
            refine rd1 (i := 8) (by kernel_rfl) rfl (fun K hK => ?_)
            have t0 := rblk_cell P_m 0
            have q0 := rblk_free P_m 0
            go_simp
            clear t0 q0
            replace P_r := rblk_other P_r 0 (.slice A2 (M.length + 1) cc) (show (w.heap.size + 1) ≠ w.heap.size by omega)
            replace P_m := rblk_set P_m 0 (.slice A2 (M.length + 1) cc)
            replace G2 := G2.put (g := (w.heap.size + 1)) (i := 0) (by omega) (.slice A2 (M.length + 1) cc)
            replace kb := below_put (o := 0) kb (show w.heap.size ≤ (w.heap.size + 1) by omega) (.slice A2 (M.length + 1) cc)
            have hz3 : (w2.setCell ⟨(w.heap.size + 1), 0, none⟩ (.slice A2 (M.length + 1) cc)).heap.size = w2.heap.size := by simp [World.setCell]
            rw [← hz3] at G2
            clear hz3 hz2
            generalize w2.setCell ⟨(w.heap.size + 1), 0, none⟩ (.slice A2 (M.length + 1) cc) = w3 at *
            refine hK.out _ _ trivial (fun hH => ?_)
            replace hHeld := hH
            clear hK K hH
            try simp only [ps]
            refine wpAnyH_done (by kernel_rfl) ?_ _
            rw [show (#[Value.slice A M.length c, Value.slice D ([] : List TV).length d].setIfInBounds 0 (.slice A2 (M.length + 1) cc)) = #[.slice A2 (M.length + 1) cc, .slice D ([] : List TV).length d] from rfl] at P_m
            have HZ := Lib.hid (rblk_lt P_m)
            have HX := Lib.hid (And.intro G2 (And.intro P_m (And.intro P_r kb)))
            clear G2 P_m P_r kb
            go_wp2
            go_roundw
            case rel => exact ⟨x + 1, M ++ [⟨(rfi (x : Int)), (rfi (y : Int)), a1, a2⟩], [], A2, D, cc, d, _, by omega, by go_num, by rw [dat_app, HD.out, ← Nat.add_assoc, sqG_succ, sqPt_at hx1]; rfl, rfl, by rw [List.length_append]; exact HX.out.1, by have := HX.out.1.hh; have := HZ.out; omega, by rw [List.length_append]; exact HX.out.2.1, HX.out.2.2.1, HX.out.2.2.2⟩
            case measure => simp [intOf]; omega
          · skip
            have hz0 := G.hh
            go_simp
            (go_at_call 13; ((with_reducible refine (HP.out x y _ (by omega) (by omega)).mono ?_); rintro e Wc ⟨a1, a2, rfl, hcs, oq, apq, hb⟩))
            replace P_m := rblk_below P_m hb
            replace P_r := rblk_below P_r hb
            replace G := G.below hb
            replace kb := bt kb hb
            clear hb hcs
            refine hK.out _ _ trivial (fun hH => ?_)
            replace hHeld := hH
            clear hK K hH
            try simp only [ps]
            refine wpAnyH_ready (rs := [1, 5]) (by kernel_rfl) (by simp) ?_
            refine rc1 rfl (fun K hK => ?_) (rc1 rfl (fun K hK => ?_) AllReadyH.nil)
            · skip
              have t0 := rblk_cell P_m 0
              go_simp
              clear t0
              refine hK.out _ _ trivial (fun hH => ?_)
              replace hHeld := hH
              clear hK K hH
              try simp only [ps]
              refine rd1 (i := 5) (by kernel_rfl) rfl (fun K hK => ?_)
              go_simp
              refine hK.out _ _ trivial (fun hH => ?_)
              replace hHeld := hH
              clear hK K hH
              try simp only [ps]
              refine rd1 (i := 6) (by kernel_rfl) rfl (fun K hK => ?_)
              refine wanted_op (by rfl) ?_
              refine grow_pt_op (.tmp 28) (.tmp 32) rfl G ⟨(rfi (x : Int)), (rfi (y : Int)), a1, a2⟩ rfl rfl (by have := HL.out; omega) (by omega) hz0 oq apq ?_
              intro A2 cc w2 G2 k2 _ _
              have hz2 := k2.size
              replace P_m := (k2.block _ (by omega)).trans P_m
              replace P_r := (k2.block _ (by omega)).trans P_r
              replace kb := kb.trans (k2.mono (by omega))
              clear G oq apq k2 hz0
              refine hK.out _ _ trivial (fun hH => ?_)
              replace hHeld := hH
              clear hK K hH
              try simp only [ps]
              refine tk (i := 7) (v := ?vg4_5) rfl (by kernel_rfl) (fun _ _ _ h => h) (Or.inl ⟨by rfl, ?hg4_5⟩) hHeld ?_
              case hg4_5 => (intro w hSw; (try dsimp only at hSw); go_simp; (try with_reducible rfl))
              try simp only [ps]
              refine rd1 (i := 8) (by kernel_rfl) rfl (fun K hK => ?_)
              have t0 := rblk_cell P_m 0
              have q0 := rblk_free P_m 0
              go_simp
              clear t0 q0
              replace P_r := rblk_other P_r 0 (.slice A2 (M.length + 1) cc) (show (w.heap.size + 1) ≠ w.heap.size by omega)
              replace P_m := rblk_set P_m 0 (.slice A2 (M.length + 1) cc)
              replace G2 := G2.put (g := (w.heap.size + 1)) (i := 0) (by omega) (.slice A2 (M.length + 1) cc)
              replace kb := below_put (o := 0) kb (show w.heap.size ≤ (w.heap.size + 1) by omega) (.slice A2 (M.length + 1) cc)
              have hz3 : (w2.setCell ⟨(w.heap.size + 1), 0, none⟩ (.slice A2 (M.length + 1) cc)).heap.size = w2.heap.size := by simp [World.setCell]
              rw [← hz3] at G2
              clear hz3 hz2
              generalize w2.setCell ⟨(w.heap.size + 1), 0, none⟩ (.slice A2 (M.length + 1) cc) = w3 at *
              refine hK.out _ _ trivial (fun hH => ?_)
              replace hHeld := hH
              clear hK K hH
              try simp only [ps]
              refine wpAnyH_done (by kernel_rfl) ?_ _
              rw [show (#[Value.slice A M.length c, Value.slice D ([] : List TV).length d].setIfInBounds 0 (.slice A2 (M.length + 1) cc)) = #[.slice A2 (M.length + 1) cc, .slice D ([] : List TV).length d] from rfl] at P_m
              have HZ := Lib.hid (rblk_lt P_m)
              have HX := Lib.hid (And.intro G2 (And.intro P_m (And.intro P_r kb)))
              clear G2 P_m P_r kb
              go_wp2
              go_roundw
              case rel => exact ⟨x + 1, M ++ [⟨(rfi (x : Int)), (rfi (y : Int)), a1, a2⟩], [], A2, D, cc, d, _, by omega, by go_num, by rw [dat_app, HD.out, ← Nat.add_assoc, sqG_succ, sqPt_at hx1]; rfl, rfl, by rw [List.length_append]; exact HX.out.1, by have := HX.out.1.hh; have := HZ.out; omega, by rw [List.length_append]; exact HX.out.2.1, HX.out.2.2.1, HX.out.2.2.2⟩
              case measure => simp [intOf]; omega
            · skip
              go_simp
              refine hK.out _ _ trivial (fun hH => ?_)
              replace hHeld := hH
              clear hK K hH
              try simp only [ps]
              refine rd1 (i := 1) (by kernel_rfl) rfl (fun K hK => ?_)
              have t0 := rblk_cell (rblk_below P_m (ba1 _ (.cells #[.bool (rfi (x : Int)).p, .slice a1.A (rfi (x : Int)).l.length a1.c, .slice a1.D (rfi (x : Int)).m.length a1.d, .bool (rfi (y : Int)).p, .slice a2.A (rfi (y : Int)).l.length a2.c, .slice a2.D (rfi (y : Int)).m.length a2.d] 39))) 0
              go_simp
              clear t0
              refine hK.out _ _ trivial (fun hH => ?_)
              replace hHeld := hH
              clear hK K hH
              try simp only [ps]
              refine rd1 (i := 6) (by kernel_rfl) rfl (fun K hK => ?_)
              refine wanted_op (by rfl) ?_
              refine grow_pt_op (.tmp 28) (.tmp 32) rfl G ⟨(rfi (x : Int)), (rfi (y : Int)), a1, a2⟩ rfl rfl (by have := HL.out; omega) (by omega) hz0 oq apq ?_
              intro A2 cc w2 G2 k2 _ _
              have hz2 := k2.size
              replace P_m := (k2.block _ (by omega)).trans P_m
              replace P_r := (k2.block _ (by omega)).trans P_r
              replace kb := kb.trans (k2.mono (by omega))
              clear G oq apq k2 hz0
              refine hK.out _ _ trivial (fun hH => ?_)
              replace hHeld := hH
              clear hK K hH
              try simp only [ps]
              refine tk (i := 7) (v := ?vg4_6) rfl (by kernel_rfl) (fun _ _ _ h => h) (Or.inl ⟨by rfl, ?hg4_6⟩) hHeld ?_
              case hg4_6 => (intro w hSw; (try dsimp only at hSw); go_simp; (try with_reducible rfl))
              try simp only [ps]
              refine rd1 (i := 8) (by kernel_rfl) rfl (fun K hK => ?_)
              have t0 := rblk_cell P_m 0
              have q0 := rblk_free P_m 0
              go_simp
              clear t0 q0
              replace P_r := rblk_other P_r 0 (.slice A2 (M.length + 1) cc) (show (w.heap.size + 1) ≠ w.heap.size by omega)
              replace P_m := rblk_set P_m 0 (.slice A2 (M.length + 1) cc)
              replace G2 := G2.put (g := (w.heap.size + 1)) (i := 0) (by omega) (.slice A2 (M.length + 1) cc)
              replace kb := below_put (o := 0) kb (show w.heap.size ≤ (w.heap.size + 1) by omega) (.slice A2 (M.length + 1) cc)
              have hz3 : (w2.setCell ⟨(w.heap.size + 1), 0, none⟩ (.slice A2 (M.length + 1) cc)).heap.size = w2.heap.size := by simp [World.setCell]
              rw [← hz3] at G2
              clear hz3 hz2
              generalize w2.setCell ⟨(w.heap.size + 1), 0, none⟩ (.slice A2 (M.length + 1) cc) = w3 at *
              refine hK.out _ _ trivial (fun hH => ?_)
              replace hHeld := hH
              clear hK K hH
              try simp only [ps]
              refine wpAnyH_done (by kernel_rfl) ?_ _
              rw [show (#[Value.slice A M.length c, Value.slice D ([] : List TV).length d].setIfInBounds 0 (.slice A2 (M.length + 1) cc)) = #[.slice A2 (M.length + 1) cc, .slice D ([] : List TV).length d] from rfl] at P_m
              have HZ := Lib.hid (rblk_lt P_m)
              have HX := Lib.hid (And.intro G2 (And.intro P_m (And.intro P_r kb)))
              clear G2 P_m P_r kb
              go_wp2
              go_roundw
              case rel => exact ⟨x + 1, M ++ [⟨(rfi (x : Int)), (rfi (y : Int)), a1, a2⟩], [], A2, D, cc, d, _, by omega, by go_num, by rw [dat_app, HD.out, ← Nat.add_assoc, sqG_succ, sqPt_at hx1]; rfl, rfl, by rw [List.length_append]; exact HX.out.1, by have := HX.out.1.hh; have := HZ.out; omega, by rw [List.length_append]; exact HX.out.2.1, HX.out.2.2.1, HX.out.2.2.2⟩
              case measure => simp [intOf]; omega
        · have hx2 : ¬ (x : Int) ≤ 2 := by omega
          have HX := Lib.hid (And.intro G (And.intro hB (And.intro P_m (And.intro P_r kb))))
          clear G hB P_m P_r kb
          go_wp2
          go_roundw
          case rel => exact ⟨y + 1, M, [], A, D, c, d, hi, by omega, by go_num, by rw [HD.out]; congr 1; omega, rfl, HX.out⟩
          case measure => simp [intOf]; omega
    · have hy1 : ¬ (y : Int) ≤ 2 := by omega
      have d0 : dat M = sqP 2 0 := by rw [hd, show y = 3 by omega]; simp [sqP]
      clear hd
      go_wp2_with fail
      go_loopw [6] (fun yv w' => ∃ (v : Nat) (M : List PV) (T : List TV) (A D : Option Addr) (c d hi : Nat), v ≤ 2 ∧ yv = .int .i64 (v : Int) ∧ dat M = sqP 2 (v * 2) ∧ T = sqT 2 (v * 2) ∧ Gm (w.heap.size + 2) hi w' M T (.slice A M.length c) (.slice D T.length d) ∧ w.heap.size + 2 ≤ hi ∧ w'.heap[w.heap.size + 1]? = some (.cells #[.slice A M.length c, .slice D T.length d] 25 (0, 0)) ∧ w'.heap[w.heap.size]? = some (.cells #[.slice none 0 0, .slice none 0 0] 25 (0, 0)) ∧ Below w.heap.size w w') (fun yv _ => 2 - (intOf yv).toNat)
      case atStart => exact ⟨0, M, [], A, D, c, d, hi, by omega, rfl, by simpa using d0, by simp [sqT], G, hB, P_m, P_r, kb⟩
      case round =>
        clear d0 G hB P_m P_r kb
        obtain ⟨v, M, T, A, D, c, d, hi, hv, rfl, hd, hT, G, hB, P_m, P_r, kb⟩ := hrel
        by_cases hv1 : v < 2
        · have hv2 : (v : Int) < 2 := by omega
          go_wp2_with fail
          go_loopw [7] (fun xv w' => ∃ (u : Nat) (M : List PV) (T : List TV) (A D : Option Addr) (c d hi : Nat), u ≤ 2 ∧ xv = .int .i64 (u : Int) ∧ dat M = sqP 2 (v * 2 + u) ∧ T = sqT 2 (v * 2 + u) ∧ Gm (w.heap.size + 2) hi w' M T (.slice A M.length c) (.slice D T.length d) ∧ w.heap.size + 2 ≤ hi ∧ w'.heap[w.heap.size + 1]? = some (.cells #[.slice A M.length c, .slice D T.length d] 25 (0, 0)) ∧ w'.heap[w.heap.size]? = some (.cells #[.slice none 0 0, .slice none 0 0] 25 (0, 0)) ∧ Below w.heap.size w w') (fun xv _ => 2 - (intOf xv).toNat)
          case atStart => exact ⟨0, M, T, A, D, c, d, hi, by omega, rfl, hd, hT, G, hB, P_m, P_r, kb⟩
          case round =>
            clear hd hT G hB P_m P_r kb
            obtain ⟨u, M, T, A, D, c, d, hi, hu, rfl, hd, hT, G, hB, P_m, P_r, kb⟩ := hrel
            have hl : M.length = 9 + (v * 2 + u) := by have := congrArg List.length hd; rw [sqP_len] at this; simpa [dat] using this
            have hlT : T.length = (v * 2 + u) * 4 := by rw [hT, sqT_len]
            have HL : Hid (M.length ≤ 25 ∧ T.length ≤ 36) := Lib.hid (by omega)
            have HD := Lib.hid (And.intro hd hT)
            have HE := Lib.hid hl
            clear hd hT hl hlT
            by_cases hu1 : u < 2
            · have hu2 : (u : Int) < 2 := by omega
              have t0 := rblk_cell P_m 0
              go_wp2_with fail
              clear t0
              go_cut [] (fun wx => ∃ (M2 : List PV) (A2 : Option Addr) (cc hi2 : Nat), (dat M2 = sqP 2 (v * 2 + u + 1) ∧ M2.length = M.length + 1) ∧ Gm (w.heap.size + 2) hi2 wx M2 T (.slice A2 M2.length cc) (.slice D T.length d) ∧ w.heap.size + 2 ≤ hi2 ∧ wx.heap[w.heap.size + 1]? = some (.cells #[.slice A2 M2.length cc, .slice D T.length d] 25 (0, 0)) ∧ wx.heap[w.heap.size]? = some (.cells #[.slice none 0 0, .slice none 0 0] 25 (0, 0)) ∧ Below w.heap.size w wx)
              case first =>
                have ex1 : IntKind.i64.wrap (2 * (u : Int)) = 2 * (u : Int) := IntWalk.i64_in _ (by omega)
                have ex2 : IntKind.i64.wrap (2 * (u : Int) + 1) = 2 * (u : Int) + 1 := IntWalk.i64_in _ (by omega)
                have ey1 : IntKind.i64.wrap (2 * (v : Int)) = 2 * (v : Int) := IntWalk.i64_in _ (by omega)
                have ey2 : IntKind.i64.wrap (2 * (v : Int) + 1) = 2 * (v : Int) + 1 := IntWalk.i64_in _ (by omega)
                have hd0 : Below wr.heap.size wr wr.drew := (Below.refl _ _).drew
                replace P_m := rblk_below P_m hd0
                replace P_r := rblk_below P_r hd0
                replace G := G.below hd0
                replace kb := bt kb hd0
                clear hd0
                refine wp_region_held_drew (S := fun w' => True) (by kernel_rfl) trivial (fun hHeld => ?_)
                generalize wr.drew = Wd at *
                refine tk (i := 0) (v := ?vg5_1) rfl (by kernel_rfl) (fun _ _ _ h => h) (Or.inl ⟨by rfl, ?hg5_1⟩) hHeld ?_
                case hg5_1 => (intro w hSw; (try dsimp only at hSw); go_simp; (try with_reducible rfl))
                try simp only [ps]
                refine tk (i := 2) (v := ?vg5_2) rfl (by kernel_rfl) (fun _ _ _ h => h) (Or.inl ⟨by rfl, ?hg5_2⟩) hHeld ?_
                case hg5_2 => (intro w hSw; (try dsimp only at hSw); go_simp; (try with_reducible rfl))
                try simp only [ps]
                refine tk (i := 3) (v := ?vg5_3) rfl (by kernel_rfl) (fun _ _ _ h => h) (Or.inl ⟨by rfl, ?hg5_3⟩) hHeld ?_
                case hg5_3 => (intro w hSw; (try dsimp only at hSw); go_simp; (try with_reducible rfl))
                try simp only [ps]
                refine tk (i := 4) (v := ?vg5_4) rfl (by kernel_rfl) (fun _ _ _ h => h) (Or.inl ⟨by rfl, ?hg5_4⟩) hHeld ?_
                case hg5_4 => (intro w hSw; (try dsimp only at hSw); go_simp; (try with_reducible rfl))
                try simp only [ps]
                refine tk (i := 5) (v := ?vg5_5) rfl (by kernel_rfl) (fun _ _ _ h => h) (Or.inl ⟨by rfl, ?hg5_5⟩) hHeld ?_
                case hg5_5 => (intro w hSw; (try dsimp only at hSw); go_simp; (try with_reducible rfl))
                try simp only [ps]
                refine tk (i := 6) (v := ?vg5_6) rfl (by kernel_rfl) (fun _ _ _ h => h) (Or.inl ⟨by rfl, ?hg5_6⟩) hHeld ?_
                case hg5_6 => (intro w hSw; (try dsimp only at hSw); go_simp; (try with_reducible rfl))
                try simp only [ps]
                refine tk (i := 7) (v := ?vg5_7) rfl (by kernel_rfl) (fun _ _ _ h => h) (Or.inl ⟨by rfl, ?hg5_7⟩) hHeld ?_
                case hg5_7 => (intro w hSw; (try dsimp only at hSw); go_simp; (try with_reducible rfl))
                try simp only [ps]
                refine wpAnyH_ready (rs := [1, 8]) (by kernel_rfl) (by simp) ?_
                refine rc1 rfl (fun K hK => ?_) (rc1 rfl (fun K hK => ?_) AllReadyH.nil)
                · skip
                  have t0 := rblk_cell P_m 0
                  go_simp
                  clear t0
                  refine hK.out _ _ trivial (fun hH => ?_)
                  replace hHeld := hH
                  clear hK K hH
                  try simp only [ps]
                  refine rd1 (i := 8) (by kernel_rfl) rfl (fun K hK => ?_)
                  have hz0 := G.hh
                  go_simp
                  (go_at_call 14; ((with_reducible refine (HQ.out u v _ (by omega) (by omega)).mono ?_); rintro e Wc ⟨a1, a2, rfl, hcs, oq, apq, hb⟩))
                  replace P_m := rblk_below P_m hb
                  replace P_r := rblk_below P_r hb
                  replace G := G.below hb
                  replace kb := bt kb hb
                  clear hb hcs
                  refine hK.out _ _ trivial (fun hH => ?_)
                  replace hHeld := hH
                  clear hK K hH
                  try simp only [ps]
                  refine rd1 (i := 9) (by kernel_rfl) rfl (fun K hK => ?_)
                  go_simp
                  refine hK.out _ _ trivial (fun hH => ?_)
                  replace hHeld := hH
                  clear hK K hH
                  try simp only [ps]
                  refine rd1 (i := 10) (by kernel_rfl) rfl (fun K hK => ?_)
                  refine wanted_op (by rfl) ?_
                  refine grow_pt_op (.tmp 55) (.tmp 63) rfl G ⟨(ofO (ofQ (2 * (u : Int) + 1) 2)), (ofO (ofQ (2 * (v : Int) + 1) 2)), a1, a2⟩ rfl rfl (by have := HL.out; omega) (by omega) hz0 oq apq ?_
                  intro A2 cc w2 G2 k2 _ _
                  have hz2 := k2.size
                  replace P_m := (k2.block _ (by omega)).trans P_m
                  replace P_r := (k2.block _ (by omega)).trans P_r
                  replace kb := kb.trans (k2.mono (by omega))
                  clear G oq apq k2 hz0
                  refine hK.out _ _ trivial (fun hH => ?_)
                  replace hHeld := hH
                  clear hK K hH
                  try simp only [ps]
                  refine tk (i := 11) (v := ?vg5_8) rfl (by kernel_rfl) (fun _ _ _ h => h) (Or.inl ⟨by rfl, ?hg5_8⟩) hHeld ?_
                  case hg5_8 => (intro w hSw; (try dsimp only at hSw); go_simp; (try with_reducible rfl))
                  try simp only [ps]
                  refine rd1 (i := 12) (by kernel_rfl) rfl (fun K hK => ?_)
                  have t0 := rblk_cell P_m 0
                  have q0 := rblk_free P_m 0
                  go_simp
                  clear t0 q0
                  replace P_r := rblk_other P_r 0 (.slice A2 (M.length + 1) cc) (show (w.heap.size + 1) ≠ w.heap.size by omega)
                  replace P_m := rblk_set P_m 0 (.slice A2 (M.length + 1) cc)
                  replace G2 := G2.put (g := (w.heap.size + 1)) (i := 0) (by omega) (.slice A2 (M.length + 1) cc)
                  replace kb := below_put (o := 0) kb (show w.heap.size ≤ (w.heap.size + 1) by omega) (.slice A2 (M.length + 1) cc)
                  have hz3 : (w2.setCell ⟨(w.heap.size + 1), 0, none⟩ (.slice A2 (M.length + 1) cc)).heap.size = w2.heap.size := by simp [World.setCell]
                  rw [← hz3] at G2
                  clear hz3 hz2
                  generalize w2.setCell ⟨(w.heap.size + 1), 0, none⟩ (.slice A2 (M.length + 1) cc) = w3 at *
                  refine hK.out _ _ trivial (fun hH => ?_)
                  replace hHeld := hH
                  clear hK K hH
                  try simp only [ps]
                  refine wpAnyH_done (by kernel_rfl) ?_ _
                  rw [show (#[Value.slice A M.length c, Value.slice D T.length d].setIfInBounds 0 (.slice A2 (M.length + 1) cc)) = #[.slice A2 (M.length + 1) cc, .slice D T.length d] from rfl] at P_m
                  have HZ := Lib.hid (rblk_lt P_m)
                  have HX := Lib.hid (And.intro G2 (And.intro P_m (And.intro P_r kb)))
                  clear G2 P_m P_r kb ex1 ex2 ey1 ey2
                  go_wp2_with fail
                  go_meet
                  exact ⟨M ++ [⟨(ofO (ofQ (2 * (u : Int) + 1) 2)), (ofO (ofQ (2 * (v : Int) + 1) 2)), a1, a2⟩], A2, cc, _, ⟨by rw [dat_app, HD.out.1, sqP_succ, sqMid_at hu1]; rfl, by rw [List.length_append]; rfl⟩, by rw [List.length_append]; exact HX.out.1, by have := HX.out.1.hh; have := HZ.out; omega, by rw [List.length_append]; exact HX.out.2.1, HX.out.2.2.1, HX.out.2.2.2⟩
                · skip
                  have hz0 := G.hh
                  go_simp
                  (go_at_call 14; ((with_reducible refine (HQ.out u v _ (by omega) (by omega)).mono ?_); rintro e Wc ⟨a1, a2, rfl, hcs, oq, apq, hb⟩))
                  replace P_m := rblk_below P_m hb
                  replace P_r := rblk_below P_r hb
                  replace G := G.below hb
                  replace kb := bt kb hb
                  clear hb hcs
                  refine hK.out _ _ trivial (fun hH => ?_)
                  replace hHeld := hH
                  clear hK K hH
                  try simp only [ps]
                  refine wpAnyH_ready (rs := [1, 9]) (by kernel_rfl) (by simp) ?_
                  refine rc1 rfl (fun K hK => ?_) (rc1 rfl (fun K hK => ?_) AllReadyH.nil)
                  · skip
                    have t0 := rblk_cell P_m 0
                    go_simp
                    clear t0
                    refine hK.out _ _ trivial (fun hH => ?_)
                    replace hHeld := hH
                    clear hK K hH
                    try simp only [ps]
                    refine rd1 (i := 9) (by kernel_rfl) rfl (fun K hK => ?_)
                    go_simp
                    refine hK.out _ _ trivial (fun hH => ?_)
                    replace hHeld := hH
                    clear hK K hH
                    try simp only [ps]
                    refine rd1 (i := 10) (by kernel_rfl) rfl (fun K hK => ?_)
                    refine wanted_op (by rfl) ?_
                    refine grow_pt_op (.tmp 55) (.tmp 63) rfl G ⟨(ofO (ofQ (2 * (u : Int) + 1) 2)), (ofO (ofQ (2 * (v : Int) + 1) 2)), a1, a2⟩ rfl rfl (by have := HL.out; omega) (by omega) hz0 oq apq ?_
                    intro A2 cc w2 G2 k2 _ _
                    have hz2 := k2.size
                    replace P_m := (k2.block _ (by omega)).trans P_m
                    replace P_r := (k2.block _ (by omega)).trans P_r
                    replace kb := kb.trans (k2.mono (by omega))
                    clear G oq apq k2 hz0
                    refine hK.out _ _ trivial (fun hH => ?_)
                    replace hHeld := hH
                    clear hK K hH
                    try simp only [ps]
                    refine tk (i := 11) (v := ?vg5_9) rfl (by kernel_rfl) (fun _ _ _ h => h) (Or.inl ⟨by rfl, ?hg5_9⟩) hHeld ?_
                    case hg5_9 => (intro w hSw; (try dsimp only at hSw); go_simp; (try with_reducible rfl))
                    try simp only [ps]
                    refine rd1 (i := 12) (by kernel_rfl) rfl (fun K hK => ?_)
                    have t0 := rblk_cell P_m 0
                    have q0 := rblk_free P_m 0
                    go_simp
                    clear t0 q0
                    replace P_r := rblk_other P_r 0 (.slice A2 (M.length + 1) cc) (show (w.heap.size + 1) ≠ w.heap.size by omega)
                    replace P_m := rblk_set P_m 0 (.slice A2 (M.length + 1) cc)
                    replace G2 := G2.put (g := (w.heap.size + 1)) (i := 0) (by omega) (.slice A2 (M.length + 1) cc)
                    replace kb := below_put (o := 0) kb (show w.heap.size ≤ (w.heap.size + 1) by omega) (.slice A2 (M.length + 1) cc)
                    have hz3 : (w2.setCell ⟨(w.heap.size + 1), 0, none⟩ (.slice A2 (M.length + 1) cc)).heap.size = w2.heap.size := by simp [World.setCell]
                    rw [← hz3] at G2
                    clear hz3 hz2
                    generalize w2.setCell ⟨(w.heap.size + 1), 0, none⟩ (.slice A2 (M.length + 1) cc) = w3 at *
                    refine hK.out _ _ trivial (fun hH => ?_)
                    replace hHeld := hH
                    clear hK K hH
                    try simp only [ps]
                    refine wpAnyH_done (by kernel_rfl) ?_ _
                    rw [show (#[Value.slice A M.length c, Value.slice D T.length d].setIfInBounds 0 (.slice A2 (M.length + 1) cc)) = #[.slice A2 (M.length + 1) cc, .slice D T.length d] from rfl] at P_m
                    have HZ := Lib.hid (rblk_lt P_m)
                    have HX := Lib.hid (And.intro G2 (And.intro P_m (And.intro P_r kb)))
                    clear G2 P_m P_r kb ex1 ex2 ey1 ey2
                    go_wp2_with fail
                    go_meet
                    exact ⟨M ++ [⟨(ofO (ofQ (2 * (u : Int) + 1) 2)), (ofO (ofQ (2 * (v : Int) + 1) 2)), a1, a2⟩], A2, cc, _, ⟨by rw [dat_app, HD.out.1, sqP_succ, sqMid_at hu1]; rfl, by rw [List.length_append]; rfl⟩, by rw [List.length_append]; exact HX.out.1, by have := HX.out.1.hh; have := HZ.out; omega, by rw [List.length_append]; exact HX.out.2.1, HX.out.2.2.1, HX.out.2.2.2⟩
                  · skip
                    go_simp
                    refine hK.out _ _ trivial (fun hH => ?_)
                    replace hHeld := hH
                    clear hK K hH
                    try simp only [ps]
                    refine rd1 (i := 1) (by kernel_rfl) rfl (fun K hK => ?_)
                    have t0 := rblk_cell (rblk_below P_m (ba1 _ (.cells #[.bool (ofO (ofQ (2 * (u : Int) + 1) 2)).p, .slice a1.A (ofO (ofQ (2 * (u : Int) + 1) 2)).l.length a1.c, .slice a1.D (ofO (ofQ (2 * (u : Int) + 1) 2)).m.length a1.d, .bool (ofO (ofQ (2 * (v : Int) + 1) 2)).p, .slice a2.A (ofO (ofQ (2 * (v : Int) + 1) 2)).l.length a2.c, .slice a2.D (ofO (ofQ (2 * (v : Int) + 1) 2)).m.length a2.d] 39))) 0
                    go_simp
                    clear t0
                    refine hK.out _ _ trivial (fun hH => ?_)
                    replace hHeld := hH
                    clear hK K hH
                    try simp only [ps]
                    refine rd1 (i := 10) (by kernel_rfl) rfl (fun K hK => ?_)
                    refine wanted_op (by rfl) ?_
                    refine grow_pt_op (.tmp 55) (.tmp 63) rfl G ⟨(ofO (ofQ (2 * (u : Int) + 1) 2)), (ofO (ofQ (2 * (v : Int) + 1) 2)), a1, a2⟩ rfl rfl (by have := HL.out; omega) (by omega) hz0 oq apq ?_
                    intro A2 cc w2 G2 k2 _ _
                    have hz2 := k2.size
                    replace P_m := (k2.block _ (by omega)).trans P_m
                    replace P_r := (k2.block _ (by omega)).trans P_r
                    replace kb := kb.trans (k2.mono (by omega))
                    clear G oq apq k2 hz0
                    refine hK.out _ _ trivial (fun hH => ?_)
                    replace hHeld := hH
                    clear hK K hH
                    try simp only [ps]
                    refine tk (i := 11) (v := ?vg5_10) rfl (by kernel_rfl) (fun _ _ _ h => h) (Or.inl ⟨by rfl, ?hg5_10⟩) hHeld ?_
                    case hg5_10 => (intro w hSw; (try dsimp only at hSw); go_simp; (try with_reducible rfl))
                    try simp only [ps]
                    refine rd1 (i := 12) (by kernel_rfl) rfl (fun K hK => ?_)
                    have t0 := rblk_cell P_m 0
                    have q0 := rblk_free P_m 0
                    go_simp
                    clear t0 q0
                    replace P_r := rblk_other P_r 0 (.slice A2 (M.length + 1) cc) (show (w.heap.size + 1) ≠ w.heap.size by omega)
                    replace P_m := rblk_set P_m 0 (.slice A2 (M.length + 1) cc)
                    replace G2 := G2.put (g := (w.heap.size + 1)) (i := 0) (by omega) (.slice A2 (M.length + 1) cc)
                    replace kb := below_put (o := 0) kb (show w.heap.size ≤ (w.heap.size + 1) by omega) (.slice A2 (M.length + 1) cc)
                    have hz3 : (w2.setCell ⟨(w.heap.size + 1), 0, none⟩ (.slice A2 (M.length + 1) cc)).heap.size = w2.heap.size := by simp [World.setCell]
                    rw [← hz3] at G2
                    clear hz3 hz2
                    generalize w2.setCell ⟨(w.heap.size + 1), 0, none⟩ (.slice A2 (M.length + 1) cc) = w3 at *
                    refine hK.out _ _ trivial (fun hH => ?_)
                    replace hHeld := hH
                    clear hK K hH
                    try simp only [ps]
                    refine wpAnyH_done (by kernel_rfl) ?_ _
                    rw [show (#[Value.slice A M.length c, Value.slice D T.length d].setIfInBounds 0 (.slice A2 (M.length + 1) cc)) = #[.slice A2 (M.length + 1) cc, .slice D T.length d] from rfl] at P_m
                    have HZ := Lib.hid (rblk_lt P_m)
                    have HX := Lib.hid (And.intro G2 (And.intro P_m (And.intro P_r kb)))
                    clear G2 P_m P_r kb ex1 ex2 ey1 ey2
                    go_wp2_with fail
                    go_meet
                    exact ⟨M ++ [⟨(ofO (ofQ (2 * (u : Int) + 1) 2)), (ofO (ofQ (2 * (v : Int) + 1) 2)), a1, a2⟩], A2, cc, _, ⟨by rw [dat_app, HD.out.1, sqP_succ, sqMid_at hu1]; rfl, by rw [List.length_append]; rfl⟩, by rw [List.length_append]; exact HX.out.1, by have := HX.out.1.hh; have := HZ.out; omega, by rw [List.length_append]; exact HX.out.2.1, HX.out.2.2.1, HX.out.2.2.2⟩
              case rest =>
                clear G hB P_m P_r kb
                obtain ⟨M2, A2, cc, hi2, HM, G, hB, P_m, P_r, kb⟩ := hcut
                replace HM := Lib.hid HM
                go_wp2_with fail
                obtain ⟨b0, b1, b2, b3, b4⟩ := blocks5 wc (.cells #[.int .i64 ((v : Int) * 3 + (u : Int)), .int .i64 (((v : Int) * 3 + (u : Int)) + 1)] 3) (.cells #[.int .i64 (((v : Int) * 3 + (u : Int)) + 1), .int .i64 (((v : Int) * 3 + (u : Int)) + 2 + 2)] 3) (.cells #[.int .i64 (((v : Int) * 3 + (u : Int)) + 2 + 2), .int .i64 (((v : Int) * 3 + (u : Int)) + 2 + 1)] 3) (.cells #[.int .i64 (((v : Int) * 3 + (u : Int)) + 2 + 1), .int .i64 ((v : Int) * 3 + (u : Int))] 3) (.cells #[.slice (some ⟨wc.heap.size, 0, none⟩) 2 2, .slice (some ⟨wc.heap.size + 1, 0, none⟩) 2 2, .slice (some ⟨wc.heap.size + 2, 0, none⟩) 2 2, .slice (some ⟨wc.heap.size + 3, 0, none⟩) 2 2] 33)
                have hb := ba5 wc (.cells #[.int .i64 ((v : Int) * 3 + (u : Int)), .int .i64 (((v : Int) * 3 + (u : Int)) + 1)] 3) (.cells #[.int .i64 (((v : Int) * 3 + (u : Int)) + 1), .int .i64 (((v : Int) * 3 + (u : Int)) + 2 + 2)] 3) (.cells #[.int .i64 (((v : Int) * 3 + (u : Int)) + 2 + 2), .int .i64 (((v : Int) * 3 + (u : Int)) + 2 + 1)] 3) (.cells #[.int .i64 (((v : Int) * 3 + (u : Int)) + 2 + 1), .int .i64 ((v : Int) * 3 + (u : Int))] 3) (.cells #[.slice (some ⟨wc.heap.size, 0, none⟩) 2 2, .slice (some ⟨wc.heap.size + 1, 0, none⟩) 2 2, .slice (some ⟨wc.heap.size + 2, 0, none⟩) 2 2, .slice (some ⟨wc.heap.size + 3, 0, none⟩) 2 2] 33)
                have hz := G.hh
                replace P_m := rblk_below P_m hb
                replace P_r := rblk_below P_r hb
                replace G := G.below hb
                replace kb := bt kb hb
                clear hb
                generalize ((((wc.alloc (.cells #[.int .i64 ((v : Int) * 3 + (u : Int)), .int .i64 (((v : Int) * 3 + (u : Int)) + 1)] 3)).alloc (.cells #[.int .i64 (((v : Int) * 3 + (u : Int)) + 1), .int .i64 (((v : Int) * 3 + (u : Int)) + 2 + 2)] 3)).alloc (.cells #[.int .i64 (((v : Int) * 3 + (u : Int)) + 2 + 2), .int .i64 (((v : Int) * 3 + (u : Int)) + 2 + 1)] 3)).alloc (.cells #[.int .i64 (((v : Int) * 3 + (u : Int)) + 2 + 1), .int .i64 ((v : Int) * 3 + (u : Int))] 3)).alloc (.cells #[.slice (some ⟨wc.heap.size, 0, none⟩) 2 2, .slice (some ⟨wc.heap.size + 1, 0, none⟩) 2 2, .slice (some ⟨wc.heap.size + 2, 0, none⟩) 2 2, .slice (some ⟨wc.heap.size + 3, 0, none⟩) 2 2] 33) = W5 at *
                have R : Rows4 W5 wc.heap.size ((v : Int) * 3 + (u : Int)) (((v : Int) * 3 + (u : Int)) + 1) (((v : Int) * 3 + (u : Int)) + 2 + 2) (((v : Int) * 3 + (u : Int)) + 2 + 1) := rows4_mk b0 b1 b2 b3 b4
                clear b0 b1 b2 b3 b4
                generalize wc.heap.size = z at *
                have hgz : w.heap.size + 1 < z := by omega
                go_loopw [94] (fun kv w' => ∃ (j : Nat) (T2 : List TV) (D : Option Addr) (d hi : Nat), j ≤ 4 ∧ kv = .int .i64 (j : Int) ∧ T2 = T ++ (quadT (M.length : Int) ((v : Int) * 3 + (u : Int)) (((v : Int) * 3 + (u : Int)) + 1) (((v : Int) * 3 + (u : Int)) + 2 + 2) (((v : Int) * 3 + (u : Int)) + 2 + 1)).take j ∧ Rows4 w' z ((v : Int) * 3 + (u : Int)) (((v : Int) * 3 + (u : Int)) + 1) (((v : Int) * 3 + (u : Int)) + 2 + 2) (((v : Int) * 3 + (u : Int)) + 2 + 1) ∧ Gm (w.heap.size + 2) hi w' M2 T2 (.slice A2 M2.length cc) (.slice D T2.length d) ∧ w.heap.size + 2 ≤ hi ∧ w'.heap[w.heap.size + 1]? = some (.cells #[.slice A2 M2.length cc, .slice D T2.length d] 25 (0, 0)) ∧ w'.heap[w.heap.size]? = some (.cells #[.slice none 0 0, .slice none 0 0] 25 (0, 0)) ∧ Below w.heap.size w w') (fun kv _ => 4 - (intOf kv).toNat)
                case atStart => exact ⟨0, T, D, d, hi2, by omega, rfl, by simp, R, G, hB, P_m, P_r, kb⟩
                case round =>
                  clear R G hB P_m P_r kb hz
                  obtain ⟨j, T2, D, d, hi, hj, rfl, hT2, R, G, hB, P_m, P_r, kb⟩ := hrel
                  have hl2 : T2.length = T.length + ((quadT (M.length : Int) ((v : Int) * 3 + (u : Int)) (((v : Int) * 3 + (u : Int)) + 1) (((v : Int) * 3 + (u : Int)) + 2 + 2) (((v : Int) * 3 + (u : Int)) + 2 + 1)).take j).length := by rw [hT2, List.length_append]
                  have HT2 := Lib.hid hT2
                  clear hT2
                  by_cases hj1 : j < 4
                  · have hj2 : (j : Int) < 4 := by omega
                    have hl3 : T2.length ≤ 40 := by have h1 := HL.out; rw [hl2, List.length_take]; have : (quadT (M.length : Int) ((v : Int) * 3 + (u : Int)) (((v : Int) * 3 + (u : Int)) + 1) (((v : Int) * 3 + (u : Int)) + 2 + 2) (((v : Int) * 3 + (u : Int)) + 2 + 1)).length = 4 := rfl; omega
                    clear hl2
                    obtain ⟨cs, h4, hc⟩ := R.2
                    have c4 : wr.cell? ⟨z + 4, j, none⟩ = some (.slice (some ⟨z + j, 0, none⟩) 2 2) := (rblk_cell h4 j).trans (hc j hj1)
                    clear h4 hc
                    go_wp2_with fail
                    clear c4
                    have hd0 : Below wr.heap.size wr wr.drew := (Below.refl _ _).drew
                    replace P_m := rblk_below P_m hd0
                    replace P_r := rblk_below P_r hd0
                    replace G := G.below hd0
                    replace kb := bt kb hd0
                    replace R := R.below hd0
                    clear hd0
                    refine wp_region_held_drew (S := fun w' => w'.heap[z + j]? = some (.cells #[.int .i64 (qa ((v : Int) * 3 + (u : Int)) (((v : Int) * 3 + (u : Int)) + 1) (((v : Int) * 3 + (u : Int)) + 2 + 2) (((v : Int) * 3 + (u : Int)) + 2 + 1) j), .int .i64 (qa (((v : Int) * 3 + (u : Int)) + 1) (((v : Int) * 3 + (u : Int)) + 2 + 2) (((v : Int) * 3 + (u : Int)) + 2 + 1) ((v : Int) * 3 + (u : Int)) j)] 3 (0, 0))) (by kernel_rfl) (R.1 j hj1) (fun hHeld => ?_)
                    generalize wr.drew = Wd at *
                    refine tk (i := 0) (v := ?vg6_1) rfl (by kernel_rfl) (fun _ _ _ h => h) (Or.inl ⟨by rfl, ?hg6_1⟩) hHeld ?_
                    case hg6_1 => (intro w hSw; (try dsimp only at hSw); go_simp; (try with_reducible rfl))
                    try simp only [ps]
                    refine tk (i := 2) (v := ?vg6_2) rfl (by kernel_rfl) (fun _ _ _ h => h) (Or.inl ⟨by rfl, ?hg6_2⟩) hHeld ?_
                    case hg6_2 => (intro w hSw; (try dsimp only at hSw); go_simp; (try with_reducible rfl))
                    try simp only [ps]
                    refine tk (i := 3) (v := ?vg6_3) rfl (by kernel_rfl) (fun _ _ _ h => h) (Or.inl ⟨by rfl, ?hg6_3⟩) hHeld ?_
                    case hg6_3 => (intro w hSw; (try dsimp only at hSw); go_simp; (try with_reducible rfl))
                    try simp only [ps]
                    refine tk (i := 4) (v := ?vg6_4) rfl (by kernel_rfl) (fun _ _ _ h => h) (Or.inl ⟨by rfl, ?hg6_4⟩) hHeld ?_
                    case hg6_4 => (intro w hSw; (try dsimp only at hSw); go_simp; (try with_reducible rfl))
                    try simp only [ps]
                    refine tk (i := 5) (v := ?vg6_5) rfl (by kernel_rfl) (fun _ _ _ h => h) (Or.inl ⟨by rfl, ?hg6_5⟩) hHeld ?_
                    case hg6_5 => (intro w hSw; (try dsimp only at hSw); have s0 := rblk_cell hSw 0; go_simp; (try with_reducible rfl))
                    try simp only [ps]
                    refine tk (i := 6) (v := ?vg6_6) rfl (by kernel_rfl) (fun _ _ _ h => h) (Or.inl ⟨by rfl, ?hg6_6⟩) hHeld ?_
                    case hg6_6 => (intro w hSw; (try dsimp only at hSw); go_simp; (try with_reducible rfl))
                    try simp only [ps]
                    refine tk (i := 7) (v := ?vg6_7) rfl (by kernel_rfl) (fun _ _ _ h => h) (Or.inl ⟨by rfl, ?hg6_7⟩) hHeld ?_
                    case hg6_7 => (intro w hSw; (try dsimp only at hSw); go_simp; (try with_reducible rfl))
                    try simp only [ps]
                    refine tk (i := 8) (v := ?vg6_8) rfl (by kernel_rfl) (fun _ _ _ h => h) (Or.inl ⟨by rfl, ?hg6_8⟩) hHeld ?_
                    case hg6_8 => (intro w hSw; (try dsimp only at hSw); have s1 := rblk_cell hSw 1; go_simp; (try with_reducible rfl))
                    try simp only [ps]
                    refine tk (i := 9) (v := ?vg6_9) rfl (by kernel_rfl) (fun _ _ _ h => h) (Or.inl ⟨by rfl, ?hg6_9⟩) hHeld ?_
                    case hg6_9 => (intro w hSw; (try dsimp only at hSw); go_simp; (try with_reducible rfl))
                    try simp only [ps]
                    refine wpAnyH_ready (rs := [1, 10]) (by kernel_rfl) (by simp) ?_
                    refine rc1 rfl (fun K hK => ?_) (rc1 rfl (fun K hK => ?_) AllReadyH.nil)
                    · skip
                      have t0 := rblk_cell P_m 1
                      go_simp
                      clear t0
                      refine hK.out _ _ (R.1 j hj1) (fun hH => ?_)
                      replace hHeld := hH
                      clear hK K hH
                      try simp only [ps]
                      refine rd1 (i := 10) (by kernel_rfl) rfl (fun K hK => ?_)
                      go_simp
                      refine hK.out _ _ ((R.below (ba1 _ _)).1 j hj1) (fun hH => ?_)
                      replace hHeld := hH
                      clear hK K hH
                      try simp only [ps]
                      refine rd1 (i := 11) (by kernel_rfl) rfl (fun K hK => ?_)
                      have hz0 := G.hh
                      have hsz := sz1 Wd (.cells #[.int .i64 (M.length : Int), .int .i64 (qa ((v : Int) * 3 + (u : Int)) (((v : Int) * 3 + (u : Int)) + 1) (((v : Int) * 3 + (u : Int)) + 2 + 2) (((v : Int) * 3 + (u : Int)) + 2 + 1) j), .int .i64 (qa (((v : Int) * 3 + (u : Int)) + 1) (((v : Int) * 3 + (u : Int)) + 2 + 2) (((v : Int) * 3 + (u : Int)) + 2 + 1) ((v : Int) * 3 + (u : Int)) j), .int .i64 0, .int .i64 0] 43)
                      have GA := G.below (ba1 Wd (.cells #[.int .i64 (M.length : Int), .int .i64 (qa ((v : Int) * 3 + (u : Int)) (((v : Int) * 3 + (u : Int)) + 1) (((v : Int) * 3 + (u : Int)) + 2 + 2) (((v : Int) * 3 + (u : Int)) + 2 + 1) j), .int .i64 (qa (((v : Int) * 3 + (u : Int)) + 1) (((v : Int) * 3 + (u : Int)) + 2 + 2) (((v : Int) * 3 + (u : Int)) + 2 + 1) ((v : Int) * 3 + (u : Int)) j), .int .i64 0, .int .i64 0] 43))
                      have RA := R.below (ba1 Wd (.cells #[.int .i64 (M.length : Int), .int .i64 (qa ((v : Int) * 3 + (u : Int)) (((v : Int) * 3 + (u : Int)) + 1) (((v : Int) * 3 + (u : Int)) + 2 + 2) (((v : Int) * 3 + (u : Int)) + 2 + 1) j), .int .i64 (qa (((v : Int) * 3 + (u : Int)) + 1) (((v : Int) * 3 + (u : Int)) + 2 + 2) (((v : Int) * 3 + (u : Int)) + 2 + 1) ((v : Int) * 3 + (u : Int)) j), .int .i64 0, .int .i64 0] 43))
                      have CA := cell_tri Wd ⟨(M.length : Int), qa ((v : Int) * 3 + (u : Int)) (((v : Int) * 3 + (u : Int)) + 1) (((v : Int) * 3 + (u : Int)) + 2 + 2) (((v : Int) * 3 + (u : Int)) + 2 + 1) j, qa (((v : Int) * 3 + (u : Int)) + 1) (((v : Int) * 3 + (u : Int)) + 2 + 2) (((v : Int) * 3 + (u : Int)) + 2 + 1) ((v : Int) * 3 + (u : Int)) j, 0, 0⟩
                      have P_m' := rblk_below P_m (ba1 Wd (.cells #[.int .i64 (M.length : Int), .int .i64 (qa ((v : Int) * 3 + (u : Int)) (((v : Int) * 3 + (u : Int)) + 1) (((v : Int) * 3 + (u : Int)) + 2 + 2) (((v : Int) * 3 + (u : Int)) + 2 + 1) j), .int .i64 (qa (((v : Int) * 3 + (u : Int)) + 1) (((v : Int) * 3 + (u : Int)) + 2 + 2) (((v : Int) * 3 + (u : Int)) + 2 + 1) ((v : Int) * 3 + (u : Int)) j), .int .i64 0, .int .i64 0] 43))
                      have P_r' := rblk_below P_r (ba1 Wd (.cells #[.int .i64 (M.length : Int), .int .i64 (qa ((v : Int) * 3 + (u : Int)) (((v : Int) * 3 + (u : Int)) + 1) (((v : Int) * 3 + (u : Int)) + 2 + 2) (((v : Int) * 3 + (u : Int)) + 2 + 1) j), .int .i64 (qa (((v : Int) * 3 + (u : Int)) + 1) (((v : Int) * 3 + (u : Int)) + 2 + 2) (((v : Int) * 3 + (u : Int)) + 2 + 1) ((v : Int) * 3 + (u : Int)) j), .int .i64 0, .int .i64 0] 43))
                      have kb' := bt kb (ba1 Wd (.cells #[.int .i64 (M.length : Int), .int .i64 (qa ((v : Int) * 3 + (u : Int)) (((v : Int) * 3 + (u : Int)) + 1) (((v : Int) * 3 + (u : Int)) + 2 + 2) (((v : Int) * 3 + (u : Int)) + 2 + 1) j), .int .i64 (qa (((v : Int) * 3 + (u : Int)) + 1) (((v : Int) * 3 + (u : Int)) + 2 + 2) (((v : Int) * 3 + (u : Int)) + 2 + 1) ((v : Int) * 3 + (u : Int)) j), .int .i64 0, .int .i64 0] 43))
                      refine wanted_op (by rfl) ?_
                      refine grow_tri_op (.tmp 99) (.tmp 108) rfl GA [⟨(M.length : Int), qa ((v : Int) * 3 + (u : Int)) (((v : Int) * 3 + (u : Int)) + 1) (((v : Int) * 3 + (u : Int)) + 2 + 2) (((v : Int) * 3 + (u : Int)) + 2 + 1) j, qa (((v : Int) * 3 + (u : Int)) + 1) (((v : Int) * 3 + (u : Int)) + 2 + 2) (((v : Int) * 3 + (u : Int)) + 2 + 1) ((v : Int) * 3 + (u : Int)) j, 0, 0⟩] ⟨Wd.heap.size, 0, none⟩ 1 rfl rfl CA (by simp only [List.length_cons, List.length_nil]; omega) (by omega) ?_
                      intro D2 dd w5 G5 k5 _ kp
                      have R5 := RA.keep (fun i hi => kp _ (RA.off GA.ot i hi) (by have := RA.lt; omega))
                      have hz5 := k5.size
                      replace P_m := (k5.block _ (by omega)).trans P_m'
                      replace P_r := (k5.block _ (by omega)).trans P_r'
                      replace kb := kb'.trans (k5.mono (by omega))
                      clear G GA R RA CA P_m' P_r' kb' k5 kp
                      refine hK.out _ _ (R5.1 j hj1) (fun hH => ?_)
                      replace hHeld := hH
                      clear hK K hH
                      try simp only [ps]
                      refine tk (i := 12) (v := ?vg6_10) rfl (by kernel_rfl) (fun _ _ _ h => h) (Or.inl ⟨by rfl, ?hg6_10⟩) hHeld ?_
                      case hg6_10 => (intro w hSw; (try dsimp only at hSw); go_simp; (try with_reducible rfl))
                      try simp only [ps]
                      refine rd1 (i := 13) (by kernel_rfl) rfl (fun K hK => ?_)
                      have t0 := rblk_cell P_m 1
                      have q0 := rblk_free P_m 1
                      go_simp
                      clear t0 q0
                      replace P_r := rblk_other P_r 1 (.slice D2 (T2.length + 1) dd) (show (w.heap.size + 1) ≠ w.heap.size by omega)
                      replace R5 := R5.put (g := (w.heap.size + 1)) (i := 1) hgz (.slice D2 (T2.length + 1) dd)
                      replace P_m := rblk_set P_m 1 (.slice D2 (T2.length + 1) dd)
                      replace G5 := G5.put (g := (w.heap.size + 1)) (i := 1) (by omega) (.slice D2 (T2.length + 1) dd)
                      replace kb := below_put (o := 1) kb (show w.heap.size ≤ (w.heap.size + 1) by omega) (.slice D2 (T2.length + 1) dd)
                      have hz3 : (w5.setCell ⟨(w.heap.size + 1), 1, none⟩ (.slice D2 (T2.length + 1) dd)).heap.size = w5.heap.size := by simp [World.setCell]
                      rw [← hz3] at G5 hz5
                      clear hz3
                      generalize w5.setCell ⟨(w.heap.size + 1), 1, none⟩ (.slice D2 (T2.length + 1) dd) = w6 at *
                      refine hK.out _ _ (R5.1 j hj1) (fun hH => ?_)
                      replace hHeld := hH
                      clear hK K hH
                      try simp only [ps]
                      refine wpAnyH_done (by kernel_rfl) ?_ _
                      rw [show (#[Value.slice A2 M2.length cc, Value.slice D T2.length d].setIfInBounds 1 (.slice D2 (T2.length + 1) dd)) = #[.slice A2 M2.length cc, .slice D2 (T2.length + 1) dd] from rfl] at P_m
                      have HZ : Hid (w.heap.size + 2 ≤ w6.heap.size) := Lib.hid (by omega)
                      have HX := Lib.hid (And.intro R5 (And.intro G5 (And.intro P_m (And.intro P_r kb))))
                      clear R5 G5 P_m P_r kb hHeld hz0 hsz hz5
                      go_wp2
                      go_roundw
                      case rel => exact ⟨j + 1, T2 ++ [⟨(M.length : Int), qa ((v : Int) * 3 + (u : Int)) (((v : Int) * 3 + (u : Int)) + 1) (((v : Int) * 3 + (u : Int)) + 2 + 2) (((v : Int) * 3 + (u : Int)) + 2 + 1) j, qa (((v : Int) * 3 + (u : Int)) + 1) (((v : Int) * 3 + (u : Int)) + 2 + 2) (((v : Int) * 3 + (u : Int)) + 2 + 1) ((v : Int) * 3 + (u : Int)) j, 0, 0⟩], D2, dd, _, by omega, by go_num, by rw [HT2.out, quad_take _ _ _ _ _ hj1, List.append_assoc], HX.out.1, by rw [List.length_append]; exact HX.out.2.1, HZ.out, by rw [List.length_append]; exact HX.out.2.2.1, HX.out.2.2.2.1, HX.out.2.2.2.2⟩
                      case measure => simp [intOf]; omega
                    · skip
                      go_simp
                      refine hK.out _ _ ((R.below (ba1 _ _)).1 j hj1) (fun hH => ?_)
                      replace hHeld := hH
                      clear hK K hH
                      try simp only [ps]
                      refine rd1 (i := 1) (by kernel_rfl) rfl (fun K hK => ?_)
                      have t0 := rblk_cell (rblk_below P_m (ba1 _ (.cells #[.int .i64 (M.length : Int), .int .i64 (qa ((v : Int) * 3 + (u : Int)) (((v : Int) * 3 + (u : Int)) + 1) (((v : Int) * 3 + (u : Int)) + 2 + 2) (((v : Int) * 3 + (u : Int)) + 2 + 1) j), .int .i64 (qa (((v : Int) * 3 + (u : Int)) + 1) (((v : Int) * 3 + (u : Int)) + 2 + 2) (((v : Int) * 3 + (u : Int)) + 2 + 1) ((v : Int) * 3 + (u : Int)) j), .int .i64 0, .int .i64 0] 43))) 1
                      go_simp
                      clear t0
                      refine hK.out _ _ ((R.below (ba1 _ _)).1 j hj1) (fun hH => ?_)
                      replace hHeld := hH
                      clear hK K hH
                      try simp only [ps]
                      refine rd1 (i := 11) (by kernel_rfl) rfl (fun K hK => ?_)
                      have hz0 := G.hh
                      have hsz := sz1 Wd (.cells #[.int .i64 (M.length : Int), .int .i64 (qa ((v : Int) * 3 + (u : Int)) (((v : Int) * 3 + (u : Int)) + 1) (((v : Int) * 3 + (u : Int)) + 2 + 2) (((v : Int) * 3 + (u : Int)) + 2 + 1) j), .int .i64 (qa (((v : Int) * 3 + (u : Int)) + 1) (((v : Int) * 3 + (u : Int)) + 2 + 2) (((v : Int) * 3 + (u : Int)) + 2 + 1) ((v : Int) * 3 + (u : Int)) j), .int .i64 0, .int .i64 0] 43)
                      have GA := G.below (ba1 Wd (.cells #[.int .i64 (M.length : Int), .int .i64 (qa ((v : Int) * 3 + (u : Int)) (((v : Int) * 3 + (u : Int)) + 1) (((v : Int) * 3 + (u : Int)) + 2 + 2) (((v : Int) * 3 + (u : Int)) + 2 + 1) j), .int .i64 (qa (((v : Int) * 3 + (u : Int)) + 1) (((v : Int) * 3 + (u : Int)) + 2 + 2) (((v : Int) * 3 + (u : Int)) + 2 + 1) ((v : Int) * 3 + (u : Int)) j), .int .i64 0, .int .i64 0] 43))
                      have RA := R.below (ba1 Wd (.cells #[.int .i64 (M.length : Int), .int .i64 (qa ((v : Int) * 3 + (u : Int)) (((v : Int) * 3 + (u : Int)) + 1) (((v : Int) * 3 + (u : Int)) + 2 + 2) (((v : Int) * 3 + (u : Int)) + 2 + 1) j), .int .i64 (qa (((v : Int) * 3 + (u : Int)) + 1) (((v : Int) * 3 + (u : Int)) + 2 + 2) (((v : Int) * 3 + (u : Int)) + 2 + 1) ((v : Int) * 3 + (u : Int)) j), .int .i64 0, .int .i64 0] 43))
                      have CA := cell_tri Wd ⟨(M.length : Int), qa ((v : Int) * 3 + (u : Int)) (((v : Int) * 3 + (u : Int)) + 1) (((v : Int) * 3 + (u : Int)) + 2 + 2) (((v : Int) * 3 + (u : Int)) + 2 + 1) j, qa (((v : Int) * 3 + (u : Int)) + 1) (((v : Int) * 3 + (u : Int)) + 2 + 2) (((v : Int) * 3 + (u : Int)) + 2 + 1) ((v : Int) * 3 + (u : Int)) j, 0, 0⟩
                      have P_m' := rblk_below P_m (ba1 Wd (.cells #[.int .i64 (M.length : Int), .int .i64 (qa ((v : Int) * 3 + (u : Int)) (((v : Int) * 3 + (u : Int)) + 1) (((v : Int) * 3 + (u : Int)) + 2 + 2) (((v : Int) * 3 + (u : Int)) + 2 + 1) j), .int .i64 (qa (((v : Int) * 3 + (u : Int)) + 1) (((v : Int) * 3 + (u : Int)) + 2 + 2) (((v : Int) * 3 + (u : Int)) + 2 + 1) ((v : Int) * 3 + (u : Int)) j), .int .i64 0, .int .i64 0] 43))
                      have P_r' := rblk_below P_r (ba1 Wd (.cells #[.int .i64 (M.length : Int), .int .i64 (qa ((v : Int) * 3 + (u : Int)) (((v : Int) * 3 + (u : Int)) + 1) (((v : Int) * 3 + (u : Int)) + 2 + 2) (((v : Int) * 3 + (u : Int)) + 2 + 1) j), .int .i64 (qa (((v : Int) * 3 + (u : Int)) + 1) (((v : Int) * 3 + (u : Int)) + 2 + 2) (((v : Int) * 3 + (u : Int)) + 2 + 1) ((v : Int) * 3 + (u : Int)) j), .int .i64 0, .int .i64 0] 43))
                      have kb' := bt kb (ba1 Wd (.cells #[.int .i64 (M.length : Int), .int .i64 (qa ((v : Int) * 3 + (u : Int)) (((v : Int) * 3 + (u : Int)) + 1) (((v : Int) * 3 + (u : Int)) + 2 + 2) (((v : Int) * 3 + (u : Int)) + 2 + 1) j), .int .i64 (qa (((v : Int) * 3 + (u : Int)) + 1) (((v : Int) * 3 + (u : Int)) + 2 + 2) (((v : Int) * 3 + (u : Int)) + 2 + 1) ((v : Int) * 3 + (u : Int)) j), .int .i64 0, .int .i64 0] 43))
                      refine wanted_op (by rfl) ?_
                      refine grow_tri_op (.tmp 99) (.tmp 108) rfl GA [⟨(M.length : Int), qa ((v : Int) * 3 + (u : Int)) (((v : Int) * 3 + (u : Int)) + 1) (((v : Int) * 3 + (u : Int)) + 2 + 2) (((v : Int) * 3 + (u : Int)) + 2 + 1) j, qa (((v : Int) * 3 + (u : Int)) + 1) (((v : Int) * 3 + (u : Int)) + 2 + 2) (((v : Int) * 3 + (u : Int)) + 2 + 1) ((v : Int) * 3 + (u : Int)) j, 0, 0⟩] ⟨Wd.heap.size, 0, none⟩ 1 rfl rfl CA (by simp only [List.length_cons, List.length_nil]; omega) (by omega) ?_
                      intro D2 dd w5 G5 k5 _ kp
                      have R5 := RA.keep (fun i hi => kp _ (RA.off GA.ot i hi) (by have := RA.lt; omega))
                      have hz5 := k5.size
                      replace P_m := (k5.block _ (by omega)).trans P_m'
                      replace P_r := (k5.block _ (by omega)).trans P_r'
                      replace kb := kb'.trans (k5.mono (by omega))
                      clear G GA R RA CA P_m' P_r' kb' k5 kp
                      refine hK.out _ _ (R5.1 j hj1) (fun hH => ?_)
                      replace hHeld := hH
                      clear hK K hH
                      try simp only [ps]
                      refine tk (i := 12) (v := ?vg6_11) rfl (by kernel_rfl) (fun _ _ _ h => h) (Or.inl ⟨by rfl, ?hg6_11⟩) hHeld ?_
                      case hg6_11 => (intro w hSw; (try dsimp only at hSw); go_simp; (try with_reducible rfl))
                      try simp only [ps]
                      refine rd1 (i := 13) (by kernel_rfl) rfl (fun K hK => ?_)
                      have t0 := rblk_cell P_m 1
                      have q0 := rblk_free P_m 1
                      go_simp
                      clear t0 q0
                      replace P_r := rblk_other P_r 1 (.slice D2 (T2.length + 1) dd) (show (w.heap.size + 1) ≠ w.heap.size by omega)
                      replace R5 := R5.put (g := (w.heap.size + 1)) (i := 1) hgz (.slice D2 (T2.length + 1) dd)
                      replace P_m := rblk_set P_m 1 (.slice D2 (T2.length + 1) dd)
                      replace G5 := G5.put (g := (w.heap.size + 1)) (i := 1) (by omega) (.slice D2 (T2.length + 1) dd)
                      replace kb := below_put (o := 1) kb (show w.heap.size ≤ (w.heap.size + 1) by omega) (.slice D2 (T2.length + 1) dd)
                      have hz3 : (w5.setCell ⟨(w.heap.size + 1), 1, none⟩ (.slice D2 (T2.length + 1) dd)).heap.size = w5.heap.size := by simp [World.setCell]
                      rw [← hz3] at G5 hz5
                      clear hz3
                      generalize w5.setCell ⟨(w.heap.size + 1), 1, none⟩ (.slice D2 (T2.length + 1) dd) = w6 at *
                      refine hK.out _ _ (R5.1 j hj1) (fun hH => ?_)
                      replace hHeld := hH
                      clear hK K hH
                      try simp only [ps]
                      refine wpAnyH_done (by kernel_rfl) ?_ _
                      rw [show (#[Value.slice A2 M2.length cc, Value.slice D T2.length d].setIfInBounds 1 (.slice D2 (T2.length + 1) dd)) = #[.slice A2 M2.length cc, .slice D2 (T2.length + 1) dd] from rfl] at P_m
                      have HZ : Hid (w.heap.size + 2 ≤ w6.heap.size) := Lib.hid (by omega)
                      have HX := Lib.hid (And.intro R5 (And.intro G5 (And.intro P_m (And.intro P_r kb))))
                      clear R5 G5 P_m P_r kb hHeld hz0 hsz hz5
                      go_wp2
                      go_roundw
                      case rel => exact ⟨j + 1, T2 ++ [⟨(M.length : Int), qa ((v : Int) * 3 + (u : Int)) (((v : Int) * 3 + (u : Int)) + 1) (((v : Int) * 3 + (u : Int)) + 2 + 2) (((v : Int) * 3 + (u : Int)) + 2 + 1) j, qa (((v : Int) * 3 + (u : Int)) + 1) (((v : Int) * 3 + (u : Int)) + 2 + 2) (((v : Int) * 3 + (u : Int)) + 2 + 1) ((v : Int) * 3 + (u : Int)) j, 0, 0⟩], D2, dd, _, by omega, by go_num, by rw [HT2.out, quad_take _ _ _ _ _ hj1, List.append_assoc], HX.out.1, by rw [List.length_append]; exact HX.out.2.1, HZ.out, by rw [List.length_append]; exact HX.out.2.2.1, HX.out.2.2.2.1, HX.out.2.2.2.2⟩
                      case measure => simp [intOf]; omega
                  · have hj2 : ¬ (j : Int) < 4 := by omega
                    have e4 : T2 = sqT 2 (v * 2 + (u + 1)) := by
                      rw [HT2.out, show j = 4 by omega, ← Nat.add_assoc, sqT_succ, HD.out.2]; congr 1; have := HE.out; exact quad_eq (by omega) (by rw [sqLow_at hu1]; omega) (by rw [sqLow_at hu1]; omega) (by rw [sqLow_at hu1]; omega) (by rw [sqLow_at hu1]; omega)
                    have HX := Lib.hid (And.intro e4 (And.intro G (And.intro hB (And.intro P_m (And.intro P_r kb)))))
                    clear e4 R G hB P_m P_r kb hl2
                    go_wp2
                    go_roundw
                    case rel => exact ⟨u + 1, M2, T2, A2, D, cc, d, hi, by omega, by go_num, by rw [HM.out.1, Nat.add_assoc], HX.out⟩
                    case measure => simp [intOf]; omega
            · have hu2 : ¬ (u : Int) < 2 := by omega
              have HX := Lib.hid (And.intro G (And.intro hB (And.intro P_m (And.intro P_r kb))))
              clear G hB P_m P_r kb
              go_wp2
              go_roundw
              case rel => exact ⟨v + 1, M, T, A, D, c, d, hi, by omega, by go_num, by rw [HD.out.1]; congr 1; omega, by rw [HD.out.2]; congr 1; omega, HX.out⟩
              case measure => simp [intOf]; omega
        · have hv2 : ¬ (v : Int) < 2 := by omega
          obtain rfl : v = 2 := by omega
          have r0 := rblk_cell P_r 0
          have r1 := rblk_cell P_r 1
          have q0 := rblk_free P_r 0
          have q1 := rblk_free P_r 1
          have HX := Lib.hid (((G.put (g := w.heap.size) (i := 0) (by omega) (.slice A M.length c)).put (g := w.heap.size) (i := 1) (by omega) (.slice D T.length d)).made (B0 := w.heap.size) (m := mvOf (sqP 2 4) (sqT 2 4)) (by omega) (by rw [datM_of, hd, hT]) (w := w) (below_put (o := 1) (below_put (o := 0) kb (Nat.le_refl _) (.slice A M.length c)) (Nat.le_refl _) (.slice D T.length d)))
          have PZ := rblk_set (rblk_set P_r 0 (.slice A M.length c)) 1 (.slice D T.length d)
          have z0 := rblk_cell PZ 0
          have z1 := rblk_cell PZ 1
          have t0 := rblk_cell P_m 0
          have t1 := rblk_cell P_m 1
          clear hd hT
          go_wp2
          exact bodyPost_ret (v := .agg #[.slice A M.length c, .slice D T.length d]) (by simp [results, Try.results5, go_sem, z0, z1]) rfl HX.out
set_option maxHeartbeats 16000000 in
theorem spec_square_3 (w : World) :
    Calls Try.prog 5 #[.int .i64 3] w (MadeMi w.heap.size (mvOf (sqP 3 9) (sqT 3 9)) w) := by
  have HI := Lib.hid (fun W => l01In_r 3 1 3 W)
  rw [show (decide ((1 : Int) ≤ 3) && decide ((3 : Int) ≤ 3)) = true by decide] at HI
  have HP := Lib.hid (fun (x y : Nat) W (h : x < 5) (h' : y < 5) => spec_pointAt (x : Int) (y : Int) W (by omega) (by omega))
  have HQ := Lib.hid (fun (x y : Nat) W (h : x < 5) (h' : y < 5) => spec_halfP (2 * (x : Int) + 1) (2 * (y : Int) + 1) W (by omega) (by omega))
  unfold MadeP at HP HQ
  go_enter Try.func5, Try.ntmps5
  go_wp2_with fail
  have kb := ba2 w (.cells #[.slice none 0 0, .slice none 0 0] 25) (.cells #[.slice none 0 0, .slice none 0 0] 25)
  obtain ⟨P_r, P_m⟩ := blocks2 w (.cells #[.slice none 0 0, .slice none 0 0] 25) (.cells #[.slice none 0 0, .slice none 0 0] 25)
  generalize (w.alloc (.cells #[.slice none 0 0, .slice none 0 0] 25)).alloc (.cells #[.slice none 0 0, .slice none 0 0] 25) = W1 at kb P_r P_m ⊢
  refine (HI.out _).mono ?_
  rintro e W2 ⟨rfl, hb⟩
  replace P_m := rblk_below P_m hb
  replace P_r := rblk_below P_r hb
  replace kb := bt kb hb
  clear hb
  have hs0 := rblk_lt P_m
  have G : Gm (w.heap.size + 2) W2.heap.size W2 [] [] (.slice none 0 0) (.slice none 0 0) := Gm.start (Nat.le_refl _)
  go_wp2_with fail
  go_loopw [4] (fun yv w' => ∃ (y : Nat) (M : List PV) (T : List TV) (A D : Option Addr) (c d hi : Nat), y ≤ 4 ∧ yv = .int .i64 (y : Int) ∧ dat M = sqG 3 (y * 4) ∧ T = [] ∧ Gm (w.heap.size + 2) hi w' M T (.slice A M.length c) (.slice D T.length d) ∧ w.heap.size + 2 ≤ hi ∧ w'.heap[w.heap.size + 1]? = some (.cells #[.slice A M.length c, .slice D T.length d] 25 (0, 0)) ∧ w'.heap[w.heap.size]? = some (.cells #[.slice none 0 0, .slice none 0 0] 25 (0, 0)) ∧ Below w.heap.size w w') (fun yv _ => 4 - (intOf yv).toNat)
  case atStart => exact ⟨0, [], [], none, none, 0, 0, _, by omega, rfl, rfl, rfl, G, hs0, P_m, P_r, kb⟩
  case round =>
    clear G hs0 P_m P_r kb
    obtain ⟨y, M, T, A, D, c, d, hi, hy, rfl, hd, hT, G, hB, P_m, P_r, kb⟩ := hrel
    subst hT
    by_cases hlt : y < 4
    · have hy1 : (y : Int) ≤ 3 := by omega
      go_wp2_with fail
      go_loopw [5] (fun xv w' => ∃ (x : Nat) (M : List PV) (T : List TV) (A D : Option Addr) (c d hi : Nat), x ≤ 4 ∧ xv = .int .i64 (x : Int) ∧ dat M = sqG 3 (y * 4 + x) ∧ T = [] ∧ Gm (w.heap.size + 2) hi w' M T (.slice A M.length c) (.slice D T.length d) ∧ w.heap.size + 2 ≤ hi ∧ w'.heap[w.heap.size + 1]? = some (.cells #[.slice A M.length c, .slice D T.length d] 25 (0, 0)) ∧ w'.heap[w.heap.size]? = some (.cells #[.slice none 0 0, .slice none 0 0] 25 (0, 0)) ∧ Below w.heap.size w w') (fun xv _ => 4 - (intOf xv).toNat)
      case atStart => exact ⟨0, M, [], A, D, c, d, hi, by omega, rfl, hd, rfl, G, hB, P_m, P_r, kb⟩
      case round =>
        clear hd G hB P_m P_r kb
        obtain ⟨x, M, T, A, D, c, d, hi, hx, rfl, hd, hT, G, hB, P_m, P_r, kb⟩ := hrel
        subst hT
        have hl : M.length = y * 4 + x := by have := congrArg List.length hd; rw [sqG_len] at this; simpa [dat] using this
        have HL : Hid (M.length ≤ 16) := Lib.hid (by omega)
        have HD := Lib.hid hd
        clear hd hl
        by_cases hx1 : x < 4
        · have hx2 : (x : Int) ≤ 3 := by omega
          go_wp2_with fail
          have hd0 : Below wr.heap.size wr wr.drew := (Below.refl _ _).drew
          replace P_m := rblk_below P_m hd0
          replace P_r := rblk_below P_r hd0
          replace G := G.below hd0
          replace kb := bt kb hd0
          clear hd0
          refine wp_region_held_drew (S := fun w' => True) (by kernel_rfl) trivial (fun hHeld => ?_)
          generalize wr.drew = Wd at *
          refine tk (i := 0) (v := ?vg7_1) rfl (by kernel_rfl) (fun _ _ _ h => h) (Or.inl ⟨by rfl, ?hg7_1⟩) hHeld ?_
          case hg7_1 => (intro w hSw; (try dsimp only at hSw); go_simp; (try with_reducible rfl))
          try simp only [ps]
          refine tk (i := 2) (v := ?vg7_2) rfl (by kernel_rfl) (fun _ _ _ h => h) (Or.inl ⟨by rfl, ?hg7_2⟩) hHeld ?_
          case hg7_2 => (intro w hSw; (try dsimp only at hSw); go_simp; (try with_reducible rfl))
          try simp only [ps]
          refine tk (i := 3) (v := ?vg7_3) rfl (by kernel_rfl) (fun _ _ _ h => h) (Or.inl ⟨by rfl, ?hg7_3⟩) hHeld ?_
          case hg7_3 => (intro w hSw; (try dsimp only at hSw); go_simp; (try with_reducible rfl))
          try simp only [ps]
          refine wpAnyH_ready (rs := [1, 4]) (by kernel_rfl) (by simp) ?_
          refine rc1 rfl (fun K hK => ?_) (rc1 rfl (fun K hK => ?_) AllReadyH.nil)
          · skip
            have t0 := rblk_cell P_m 0
            go_simp
            clear t0
            refine hK.out _ _ trivial (fun hH => ?_)
            replace hHeld := hH
            clear hK K hH
            try simp only [ps]
            refine rd1 (i := 4) (by kernel_rfl) rfl (fun K hK => ?_)
            have hz0 := G.hh
            go_simp
            (go_at_call 13; ((with_reducible refine (HP.out x y _ (by omega) (by omega)).mono ?_); rintro e Wc ⟨a1, a2, rfl, hcs, oq, apq, hb⟩))
            replace P_m := rblk_below P_m hb
            replace P_r := rblk_below P_r hb
            replace G := G.below hb
            replace kb := bt kb hb
            clear hb hcs
            refine hK.out _ _ trivial (fun hH => ?_)
            replace hHeld := hH
            clear hK K hH
            try simp only [ps]
            refine rd1 (i := 5) (by kernel_rfl) rfl (fun K hK => ?_)
            go_simp
            refine hK.out _ _ trivial (fun hH => ?_)
            replace hHeld := hH
            clear hK K hH
            try simp only [ps]
            refine rd1 (i := 6) (by kernel_rfl) rfl (fun K hK => ?_)
            refine wanted_op (by rfl) ?_
            refine grow_pt_op (.tmp 28) (.tmp 32) rfl G ⟨(rfi (x : Int)), (rfi (y : Int)), a1, a2⟩ rfl rfl (by have := HL.out; omega) (by omega) hz0 oq apq ?_
            intro A2 cc w2 G2 k2 _ _
            have hz2 := k2.size
            replace P_m := (k2.block _ (by omega)).trans P_m
            replace P_r := (k2.block _ (by omega)).trans P_r
            replace kb := kb.trans (k2.mono (by omega))
            clear G oq apq k2 hz0
            refine hK.out _ _ trivial (fun hH => ?_)
            replace hHeld := hH
            clear hK K hH
            try simp only [ps]
            refine tk (i := 7) (v := ?vg7_4) rfl (by kernel_rfl) (fun _ _ _ h => h) (Or.inl ⟨by rfl, ?hg7_4⟩) hHeld ?_
            case hg7_4 => (intro w hSw; (try dsimp only at hSw); go_simp; (try with_reducible rfl))
            try simp only [ps]
            refine rd1 (i := 8) (by kernel_rfl) rfl (fun K hK => ?_)
            have t0 := rblk_cell P_m 0
            have q0 := rblk_free P_m 0
            go_simp
            clear t0 q0
            replace P_r := rblk_other P_r 0 (.slice A2 (M.length + 1) cc) (show (w.heap.size + 1) ≠ w.heap.size by omega)
            replace P_m := rblk_set P_m 0 (.slice A2 (M.length + 1) cc)
            replace G2 := G2.put (g := (w.heap.size + 1)) (i := 0) (by omega) (.slice A2 (M.length + 1) cc)
            replace kb := below_put (o := 0) kb (show w.heap.size ≤ (w.heap.size + 1) by omega) (.slice A2 (M.length + 1) cc)
            have hz3 : (w2.setCell ⟨(w.heap.size + 1), 0, none⟩ (.slice A2 (M.length + 1) cc)).heap.size = w2.heap.size := by simp [World.setCell]
            rw [← hz3] at G2
            clear hz3 hz2
            generalize w2.setCell ⟨(w.heap.size + 1), 0, none⟩ (.slice A2 (M.length + 1) cc) = w3 at *
            refine hK.out _ _ trivial (fun hH => ?_)
            replace hHeld := hH
            clear hK K hH
            try simp only [ps]
            refine wpAnyH_done (by kernel_rfl) ?_ _
            rw [show (#[Value.slice A M.length c, Value.slice D ([] : List TV).length d].setIfInBounds 0 (.slice A2 (M.length + 1) cc)) = #[.slice A2 (M.length + 1) cc, .slice D ([] : List TV).length d] from rfl] at P_m
            have HZ := Lib.hid (rblk_lt P_m)
            have HX := Lib.hid (And.intro G2 (And.intro P_m (And.intro P_r kb)))
            clear G2 P_m P_r kb
            go_wp2
            go_roundw
            case rel => exact ⟨x + 1, M ++ [⟨(rfi (x : Int)), (rfi (y : Int)), a1, a2⟩], [], A2, D, cc, d, _, by omega, by go_num, by rw [dat_app, HD.out, ← Nat.add_assoc, sqG_succ, sqPt_at hx1]; rfl, rfl, by rw [List.length_append]; exact HX.out.1, by have := HX.out.1.hh; have := HZ.out; omega, by rw [List.length_append]; exact HX.out.2.1, HX.out.2.2.1, HX.out.2.2.2⟩
            case measure => simp [intOf]; omega
          · skip
            have hz0 := G.hh
            go_simp
            (go_at_call 13; ((with_reducible refine (HP.out x y _ (by omega) (by omega)).mono ?_); rintro e Wc ⟨a1, a2, rfl, hcs, oq, apq, hb⟩))
            replace P_m := rblk_below P_m hb
            replace P_r := rblk_below P_r hb
            replace G := G.below hb
            replace kb := bt kb hb
            clear hb hcs
            refine hK.out _ _ trivial (fun hH => ?_)
            replace hHeld := hH
            clear hK K hH
            try simp only [ps]
            refine wpAnyH_ready (rs := [1, 5]) (by kernel_rfl) (by simp) ?_
            refine rc1 rfl (fun K hK => ?_) (rc1 rfl (fun K hK => ?_) AllReadyH.nil)
            · skip
              have t0 := rblk_cell P_m 0
              go_simp
              clear t0
              refine hK.out _ _ trivial (fun hH => ?_)
              replace hHeld := hH
              clear hK K hH
              try simp only [ps]
              refine rd1 (i := 5) (by kernel_rfl) rfl (fun K hK => ?_)
              go_simp
              refine hK.out _ _ trivial (fun hH => ?_)
              replace hHeld := hH
              clear hK K hH
              try simp only [ps]
              refine rd1 (i := 6) (by kernel_rfl) rfl (fun K hK => ?_)
              refine wanted_op (by rfl) ?_
              refine grow_pt_op (.tmp 28) (.tmp 32) rfl G ⟨(rfi (x : Int)), (rfi (y : Int)), a1, a2⟩ rfl rfl (by have := HL.out; omega) (by omega) hz0 oq apq ?_
              intro A2 cc w2 G2 k2 _ _
              have hz2 := k2.size
              replace P_m := (k2.block _ (by omega)).trans P_m
              replace P_r := (k2.block _ (by omega)).trans P_r
              replace kb := kb.trans (k2.mono (by omega))
              clear G oq apq k2 hz0
              refine hK.out _ _ trivial (fun hH => ?_)
              replace hHeld := hH
              clear hK K hH
              try simp only [ps]
              refine tk (i := 7) (v := ?vg7_5) rfl (by kernel_rfl) (fun _ _ _ h => h) (Or.inl ⟨by rfl, ?hg7_5⟩) hHeld ?_
              case hg7_5 => (intro w hSw; (try dsimp only at hSw); go_simp; (try with_reducible rfl))
              try simp only [ps]
              refine rd1 (i := 8) (by kernel_rfl) rfl (fun K hK => ?_)
              have t0 := rblk_cell P_m 0
              have q0 := rblk_free P_m 0
              go_simp
              clear t0 q0
              replace P_r := rblk_other P_r 0 (.slice A2 (M.length + 1) cc) (show (w.heap.size + 1) ≠ w.heap.size by omega)
              replace P_m := rblk_set P_m 0 (.slice A2 (M.length + 1) cc)
              replace G2 := G2.put (g := (w.heap.size + 1)) (i := 0) (by omega) (.slice A2 (M.length + 1) cc)
              replace kb := below_put (o := 0) kb (show w.heap.size ≤ (w.heap.size + 1) by omega) (.slice A2 (M.length + 1) cc)
              have hz3 : (w2.setCell ⟨(w.heap.size + 1), 0, none⟩ (.slice A2 (M.length + 1) cc)).heap.size = w2.heap.size := by simp [World.setCell]
              rw [← hz3] at G2
              clear hz3 hz2
              generalize w2.setCell ⟨(w.heap.size + 1), 0, none⟩ (.slice A2 (M.length + 1) cc) = w3 at *
              refine hK.out _ _ trivial (fun hH => ?_)
              replace hHeld := hH
              clear hK K hH
              try simp only [ps]
              refine wpAnyH_done (by kernel_rfl) ?_ _
              rw [show (#[Value.slice A M.length c, Value.slice D ([] : List TV).length d].setIfInBounds 0 (.slice A2 (M.length + 1) cc)) = #[.slice A2 (M.length + 1) cc, .slice D ([] : List TV).length d] from rfl] at P_m
              have HZ := Lib.hid (rblk_lt P_m)
              have HX := Lib.hid (And.intro G2 (And.intro P_m (And.intro P_r kb)))
              clear G2 P_m P_r kb
              go_wp2
              go_roundw
              case rel => exact ⟨x + 1, M ++ [⟨(rfi (x : Int)), (rfi (y : Int)), a1, a2⟩], [], A2, D, cc, d, _, by omega, by go_num, by rw [dat_app, HD.out, ← Nat.add_assoc, sqG_succ, sqPt_at hx1]; rfl, rfl, by rw [List.length_append]; exact HX.out.1, by have := HX.out.1.hh; have := HZ.out; omega, by rw [List.length_append]; exact HX.out.2.1, HX.out.2.2.1, HX.out.2.2.2⟩
              case measure => simp [intOf]; omega
            · skip
              go_simp
              refine hK.out _ _ trivial (fun hH => ?_)
              replace hHeld := hH
              clear hK K hH
              try simp only [ps]
              refine rd1 (i := 1) (by kernel_rfl) rfl (fun K hK => ?_)
              have t0 := rblk_cell (rblk_below P_m (ba1 _ (.cells #[.bool (rfi (x : Int)).p, .slice a1.A (rfi (x : Int)).l.length a1.c, .slice a1.D (rfi (x : Int)).m.length a1.d, .bool (rfi (y : Int)).p, .slice a2.A (rfi (y : Int)).l.length a2.c, .slice a2.D (rfi (y : Int)).m.length a2.d] 39))) 0
              go_simp
              clear t0
              refine hK.out _ _ trivial (fun hH => ?_)
              replace hHeld := hH
              clear hK K hH
              try simp only [ps]
              refine rd1 (i := 6) (by kernel_rfl) rfl (fun K hK => ?_)
              refine wanted_op (by rfl) ?_
              refine grow_pt_op (.tmp 28) (.tmp 32) rfl G ⟨(rfi (x : Int)), (rfi (y : Int)), a1, a2⟩ rfl rfl (by have := HL.out; omega) (by omega) hz0 oq apq ?_
              intro A2 cc w2 G2 k2 _ _
              have hz2 := k2.size
              replace P_m := (k2.block _ (by omega)).trans P_m
              replace P_r := (k2.block _ (by omega)).trans P_r
              replace kb := kb.trans (k2.mono (by omega))
              clear G oq apq k2 hz0
              refine hK.out _ _ trivial (fun hH => ?_)
              replace hHeld := hH
              clear hK K hH
              try simp only [ps]
              refine tk (i := 7) (v := ?vg7_6) rfl (by kernel_rfl) (fun _ _ _ h => h) (Or.inl ⟨by rfl, ?hg7_6⟩) hHeld ?_
              case hg7_6 => (intro w hSw; (try dsimp only at hSw); go_simp; (try with_reducible rfl))
              try simp only [ps]
              refine rd1 (i := 8) (by kernel_rfl) rfl (fun K hK => ?_)
              have t0 := rblk_cell P_m 0
              have q0 := rblk_free P_m 0
              go_simp
              clear t0 q0
              replace P_r := rblk_other P_r 0 (.slice A2 (M.length + 1) cc) (show (w.heap.size + 1) ≠ w.heap.size by omega)
              replace P_m := rblk_set P_m 0 (.slice A2 (M.length + 1) cc)
              replace G2 := G2.put (g := (w.heap.size + 1)) (i := 0) (by omega) (.slice A2 (M.length + 1) cc)
              replace kb := below_put (o := 0) kb (show w.heap.size ≤ (w.heap.size + 1) by omega) (.slice A2 (M.length + 1) cc)
              have hz3 : (w2.setCell ⟨(w.heap.size + 1), 0, none⟩ (.slice A2 (M.length + 1) cc)).heap.size = w2.heap.size := by simp [World.setCell]
              rw [← hz3] at G2
              clear hz3 hz2
              generalize w2.setCell ⟨(w.heap.size + 1), 0, none⟩ (.slice A2 (M.length + 1) cc) = w3 at *
              refine hK.out _ _ trivial (fun hH => ?_)
              replace hHeld := hH
              clear hK K hH
              try simp only [ps]
              refine wpAnyH_done (by kernel_rfl) ?_ _
              rw [show (#[Value.slice A M.length c, Value.slice D ([] : List TV).length d].setIfInBounds 0 (.slice A2 (M.length + 1) cc)) = #[.slice A2 (M.length + 1) cc, .slice D ([] : List TV).length d] from rfl] at P_m
              have HZ := Lib.hid (rblk_lt P_m)
              have HX := Lib.hid (And.intro G2 (And.intro P_m (And.intro P_r kb)))
              clear G2 P_m P_r kb
              go_wp2
              go_roundw
              case rel => exact ⟨x + 1, M ++ [⟨(rfi (x : Int)), (rfi (y : Int)), a1, a2⟩], [], A2, D, cc, d, _, by omega, by go_num, by rw [dat_app, HD.out, ← Nat.add_assoc, sqG_succ, sqPt_at hx1]; rfl, rfl, by rw [List.length_append]; exact HX.out.1, by have := HX.out.1.hh; have := HZ.out; omega, by rw [List.length_append]; exact HX.out.2.1, HX.out.2.2.1, HX.out.2.2.2⟩
              case measure => simp [intOf]; omega
        · have hx2 : ¬ (x : Int) ≤ 3 := by omega
          have HX := Lib.hid (And.intro G (And.intro hB (And.intro P_m (And.intro P_r kb))))
          clear G hB P_m P_r kb
          go_wp2
          go_roundw
          case rel => exact ⟨y + 1, M, [], A, D, c, d, hi, by omega, by go_num, by rw [HD.out]; congr 1; omega, rfl, HX.out⟩
          case measure => simp [intOf]; omega
    · have hy1 : ¬ (y : Int) ≤ 3 := by omega
      have d0 : dat M = sqP 3 0 := by rw [hd, show y = 4 by omega]; simp [sqP]
      clear hd
      go_wp2_with fail
      go_loopw [6] (fun yv w' => ∃ (v : Nat) (M : List PV) (T : List TV) (A D : Option Addr) (c d hi : Nat), v ≤ 3 ∧ yv = .int .i64 (v : Int) ∧ dat M = sqP 3 (v * 3) ∧ T = sqT 3 (v * 3) ∧ Gm (w.heap.size + 2) hi w' M T (.slice A M.length c) (.slice D T.length d) ∧ w.heap.size + 2 ≤ hi ∧ w'.heap[w.heap.size + 1]? = some (.cells #[.slice A M.length c, .slice D T.length d] 25 (0, 0)) ∧ w'.heap[w.heap.size]? = some (.cells #[.slice none 0 0, .slice none 0 0] 25 (0, 0)) ∧ Below w.heap.size w w') (fun yv _ => 3 - (intOf yv).toNat)
      case atStart => exact ⟨0, M, [], A, D, c, d, hi, by omega, rfl, by simpa using d0, by simp [sqT], G, hB, P_m, P_r, kb⟩
      case round =>
        clear d0 G hB P_m P_r kb
        obtain ⟨v, M, T, A, D, c, d, hi, hv, rfl, hd, hT, G, hB, P_m, P_r, kb⟩ := hrel
        by_cases hv1 : v < 3
        · have hv2 : (v : Int) < 3 := by omega
          go_wp2_with fail
          go_loopw [7] (fun xv w' => ∃ (u : Nat) (M : List PV) (T : List TV) (A D : Option Addr) (c d hi : Nat), u ≤ 3 ∧ xv = .int .i64 (u : Int) ∧ dat M = sqP 3 (v * 3 + u) ∧ T = sqT 3 (v * 3 + u) ∧ Gm (w.heap.size + 2) hi w' M T (.slice A M.length c) (.slice D T.length d) ∧ w.heap.size + 2 ≤ hi ∧ w'.heap[w.heap.size + 1]? = some (.cells #[.slice A M.length c, .slice D T.length d] 25 (0, 0)) ∧ w'.heap[w.heap.size]? = some (.cells #[.slice none 0 0, .slice none 0 0] 25 (0, 0)) ∧ Below w.heap.size w w') (fun xv _ => 3 - (intOf xv).toNat)
          case atStart => exact ⟨0, M, T, A, D, c, d, hi, by omega, rfl, hd, hT, G, hB, P_m, P_r, kb⟩
          case round =>
            clear hd hT G hB P_m P_r kb
            obtain ⟨u, M, T, A, D, c, d, hi, hu, rfl, hd, hT, G, hB, P_m, P_r, kb⟩ := hrel
            have hl : M.length = 16 + (v * 3 + u) := by have := congrArg List.length hd; rw [sqP_len] at this; simpa [dat] using this
            have hlT : T.length = (v * 3 + u) * 4 := by rw [hT, sqT_len]
            have HL : Hid (M.length ≤ 25 ∧ T.length ≤ 36) := Lib.hid (by omega)
            have HD := Lib.hid (And.intro hd hT)
            have HE := Lib.hid hl
            clear hd hT hl hlT
            by_cases hu1 : u < 3
            · have hu2 : (u : Int) < 3 := by omega
              have t0 := rblk_cell P_m 0
              go_wp2_with fail
              clear t0
              go_cut [] (fun wx => ∃ (M2 : List PV) (A2 : Option Addr) (cc hi2 : Nat), (dat M2 = sqP 3 (v * 3 + u + 1) ∧ M2.length = M.length + 1) ∧ Gm (w.heap.size + 2) hi2 wx M2 T (.slice A2 M2.length cc) (.slice D T.length d) ∧ w.heap.size + 2 ≤ hi2 ∧ wx.heap[w.heap.size + 1]? = some (.cells #[.slice A2 M2.length cc, .slice D T.length d] 25 (0, 0)) ∧ wx.heap[w.heap.size]? = some (.cells #[.slice none 0 0, .slice none 0 0] 25 (0, 0)) ∧ Below w.heap.size w wx)
              case first =>
                have ex1 : IntKind.i64.wrap (2 * (u : Int)) = 2 * (u : Int) := IntWalk.i64_in _ (by omega)
                have ex2 : IntKind.i64.wrap (2 * (u : Int) + 1) = 2 * (u : Int) + 1 := IntWalk.i64_in _ (by omega)
                have ey1 : IntKind.i64.wrap (2 * (v : Int)) = 2 * (v : Int) := IntWalk.i64_in _ (by omega)
                have ey2 : IntKind.i64.wrap (2 * (v : Int) + 1) = 2 * (v : Int) + 1 := IntWalk.i64_in _ (by omega)
                have hd0 : Below wr.heap.size wr wr.drew := (Below.refl _ _).drew
                replace P_m := rblk_below P_m hd0
                replace P_r := rblk_below P_r hd0
                replace G := G.below hd0
                replace kb := bt kb hd0
                clear hd0
                refine wp_region_held_drew (S := fun w' => True) (by kernel_rfl) trivial (fun hHeld => ?_)
                generalize wr.drew = Wd at *
                refine tk (i := 0) (v := ?vg8_1) rfl (by kernel_rfl) (fun _ _ _ h => h) (Or.inl ⟨by rfl, ?hg8_1⟩) hHeld ?_
                case hg8_1 => (intro w hSw; (try dsimp only at hSw); go_simp; (try with_reducible rfl))
                try simp only [ps]
                refine tk (i := 2) (v := ?vg8_2) rfl (by kernel_rfl) (fun _ _ _ h => h) (Or.inl ⟨by rfl, ?hg8_2⟩) hHeld ?_
                case hg8_2 => (intro w hSw; (try dsimp only at hSw); go_simp; (try with_reducible rfl))
                try simp only [ps]
                refine tk (i := 3) (v := ?vg8_3) rfl (by kernel_rfl) (fun _ _ _ h => h) (Or.inl ⟨by rfl, ?hg8_3⟩) hHeld ?_
                case hg8_3 => (intro w hSw; (try dsimp only at hSw); go_simp; (try with_reducible rfl))
                try simp only [ps]
                refine tk (i := 4) (v := ?vg8_4) rfl (by kernel_rfl) (fun _ _ _ h => h) (Or.inl ⟨by rfl, ?hg8_4⟩) hHeld ?_
                case hg8_4 => (intro w hSw; (try dsimp only at hSw); go_simp; (try with_reducible rfl))
                try simp only [ps]
                refine tk (i := 5) (v := ?vg8_5) rfl (by kernel_rfl) (fun _ _ _ h => h) (Or.inl ⟨by rfl, ?hg8_5⟩) hHeld ?_
                case hg8_5 => (intro w hSw; (try dsimp only at hSw); go_simp; (try with_reducible rfl))
                try simp only [ps]
                refine tk (i := 6) (v := ?vg8_6) rfl (by kernel_rfl) (fun _ _ _ h => h) (Or.inl ⟨by rfl, ?hg8_6⟩) hHeld ?_
                case hg8_6 => (intro w hSw; (try dsimp only at hSw); go_simp; (try with_reducible rfl))
                try simp only [ps]
                refine tk (i := 7) (v := ?vg8_7) rfl (by kernel_rfl) (fun _ _ _ h => h) (Or.inl ⟨by rfl, ?hg8_7⟩) hHeld ?_
                case hg8_7 => (intro w hSw; (try dsimp only at hSw); go_simp; (try with_reducible rfl))
                try simp only [ps]
                refine wpAnyH_ready (rs := [1, 8]) (by kernel_rfl) (by simp) ?_
                refine rc1 rfl (fun K hK => ?_) (rc1 rfl (fun K hK => ?_) AllReadyH.nil)
                · skip
                  have t0 := rblk_cell P_m 0
                  go_simp
                  clear t0
                  refine hK.out _ _ trivial (fun hH => ?_)
                  replace hHeld := hH
                  clear hK K hH
                  try simp only [ps]
                  refine rd1 (i := 8) (by kernel_rfl) rfl (fun K hK => ?_)
                  have hz0 := G.hh
                  go_simp
                  (go_at_call 14; ((with_reducible refine (HQ.out u v _ (by omega) (by omega)).mono ?_); rintro e Wc ⟨a1, a2, rfl, hcs, oq, apq, hb⟩))
                  replace P_m := rblk_below P_m hb
                  replace P_r := rblk_below P_r hb
                  replace G := G.below hb
                  replace kb := bt kb hb
                  clear hb hcs
                  refine hK.out _ _ trivial (fun hH => ?_)
                  replace hHeld := hH
                  clear hK K hH
                  try simp only [ps]
                  refine rd1 (i := 9) (by kernel_rfl) rfl (fun K hK => ?_)
                  go_simp
                  refine hK.out _ _ trivial (fun hH => ?_)
                  replace hHeld := hH
                  clear hK K hH
                  try simp only [ps]
                  refine rd1 (i := 10) (by kernel_rfl) rfl (fun K hK => ?_)
                  refine wanted_op (by rfl) ?_
                  refine grow_pt_op (.tmp 55) (.tmp 63) rfl G ⟨(ofO (ofQ (2 * (u : Int) + 1) 2)), (ofO (ofQ (2 * (v : Int) + 1) 2)), a1, a2⟩ rfl rfl (by have := HL.out; omega) (by omega) hz0 oq apq ?_
                  intro A2 cc w2 G2 k2 _ _
                  have hz2 := k2.size
                  replace P_m := (k2.block _ (by omega)).trans P_m
                  replace P_r := (k2.block _ (by omega)).trans P_r
                  replace kb := kb.trans (k2.mono (by omega))
                  clear G oq apq k2 hz0
                  refine hK.out _ _ trivial (fun hH => ?_)
                  replace hHeld := hH
                  clear hK K hH
                  try simp only [ps]
                  refine tk (i := 11) (v := ?vg8_8) rfl (by kernel_rfl) (fun _ _ _ h => h) (Or.inl ⟨by rfl, ?hg8_8⟩) hHeld ?_
                  case hg8_8 => (intro w hSw; (try dsimp only at hSw); go_simp; (try with_reducible rfl))
                  try simp only [ps]
                  refine rd1 (i := 12) (by kernel_rfl) rfl (fun K hK => ?_)
                  have t0 := rblk_cell P_m 0
                  have q0 := rblk_free P_m 0
                  go_simp
                  clear t0 q0
                  replace P_r := rblk_other P_r 0 (.slice A2 (M.length + 1) cc) (show (w.heap.size + 1) ≠ w.heap.size by omega)
                  replace P_m := rblk_set P_m 0 (.slice A2 (M.length + 1) cc)
                  replace G2 := G2.put (g := (w.heap.size + 1)) (i := 0) (by omega) (.slice A2 (M.length + 1) cc)
                  replace kb := below_put (o := 0) kb (show w.heap.size ≤ (w.heap.size + 1) by omega) (.slice A2 (M.length + 1) cc)
                  have hz3 : (w2.setCell ⟨(w.heap.size + 1), 0, none⟩ (.slice A2 (M.length + 1) cc)).heap.size = w2.heap.size := by simp [World.setCell]
                  rw [← hz3] at G2
                  clear hz3 hz2
                  generalize w2.setCell ⟨(w.heap.size + 1), 0, none⟩ (.slice A2 (M.length + 1) cc) = w3 at *
                  refine hK.out _ _ trivial (fun hH => ?_)
                  replace hHeld := hH
                  clear hK K hH
                  try simp only [ps]
                  refine wpAnyH_done (by kernel_rfl) ?_ _
                  rw [show (#[Value.slice A M.length c, Value.slice D T.length d].setIfInBounds 0 (.slice A2 (M.length + 1) cc)) = #[.slice A2 (M.length + 1) cc, .slice D T.length d] from rfl] at P_m
                  have HZ := Lib.hid (rblk_lt P_m)
                  have HX := Lib.hid (And.intro G2 (And.intro P_m (And.intro P_r kb)))
                  clear G2 P_m P_r kb ex1 ex2 ey1 ey2
                  go_wp2_with fail
                  go_meet
                  exact ⟨M ++ [⟨(ofO (ofQ (2 * (u : Int) + 1) 2)), (ofO (ofQ (2 * (v : Int) + 1) 2)), a1, a2⟩], A2, cc, _, ⟨by rw [dat_app, HD.out.1, sqP_succ, sqMid_at hu1]; rfl, by rw [List.length_append]; rfl⟩, by rw [List.length_append]; exact HX.out.1, by have := HX.out.1.hh; have := HZ.out; omega, by rw [List.length_append]; exact HX.out.2.1, HX.out.2.2.1, HX.out.2.2.2⟩
                · skip
                  have hz0 := G.hh
                  go_simp
                  (go_at_call 14; ((with_reducible refine (HQ.out u v _ (by omega) (by omega)).mono ?_); rintro e Wc ⟨a1, a2, rfl, hcs, oq, apq, hb⟩))
                  replace P_m := rblk_below P_m hb
                  replace P_r := rblk_below P_r hb
                  replace G := G.below hb
                  replace kb := bt kb hb
                  clear hb hcs
                  refine hK.out _ _ trivial (fun hH => ?_)
                  replace hHeld := hH
                  clear hK K hH
                  try simp only [ps]
                  refine wpAnyH_ready (rs := [1, 9]) (by kernel_rfl) (by simp) ?_
                  refine rc1 rfl (fun K hK => ?_) (rc1 rfl (fun K hK => ?_) AllReadyH.nil)
                  · skip
                    have t0 := rblk_cell P_m 0
                    go_simp
                    clear t0
                    refine hK.out _ _ trivial (fun hH => ?_)
                    replace hHeld := hH
                    clear hK K hH
                    try simp only [ps]
                    refine rd1 (i := 9) (by kernel_rfl) rfl (fun K hK => ?_)
                    go_simp
                    refine hK.out _ _ trivial (fun hH => ?_)
                    replace hHeld := hH
                    clear hK K hH
                    try simp only [ps]
                    refine rd1 (i := 10) (by kernel_rfl) rfl (fun K hK => ?_)
                    refine wanted_op (by rfl) ?_
                    refine grow_pt_op (.tmp 55) (.tmp 63) rfl G ⟨(ofO (ofQ (2 * (u : Int) + 1) 2)), (ofO (ofQ (2 * (v : Int) + 1) 2)), a1, a2⟩ rfl rfl (by have := HL.out; omega) (by omega) hz0 oq apq ?_
                    intro A2 cc w2 G2 k2 _ _
                    have hz2 := k2.size
                    replace P_m := (k2.block _ (by omega)).trans P_m
                    replace P_r := (k2.block _ (by omega)).trans P_r
                    replace kb := kb.trans (k2.mono (by omega))
                    clear G oq apq k2 hz0
                    refine hK.out _ _ trivial (fun hH => ?_)
                    replace hHeld := hH
                    clear hK K hH
                    try simp only [ps]
                    refine tk (i := 11) (v := ?vg8_9) rfl (by kernel_rfl) (fun _ _ _ h => h) (Or.inl ⟨by rfl, ?hg8_9⟩) hHeld ?_
                    case hg8_9 => (intro w hSw; (try dsimp only at hSw); go_simp; (try with_reducible rfl))
                    try simp only [ps]
                    refine rd1 (i := 12) (by kernel_rfl) rfl (fun K hK => ?_)
                    have t0 := rblk_cell P_m 0
                    have q0 := rblk_free P_m 0
                    go_simp
                    clear t0 q0
                    replace P_r := rblk_other P_r 0 (.slice A2 (M.length + 1) cc) (show (w.heap.size + 1) ≠ w.heap.size by omega)
                    replace P_m := rblk_set P_m 0 (.slice A2 (M.length + 1) cc)
                    replace G2 := G2.put (g := (w.heap.size + 1)) (i := 0) (by omega) (.slice A2 (M.length + 1) cc)
                    replace kb := below_put (o := 0) kb (show w.heap.size ≤ (w.heap.size + 1) by omega) (.slice A2 (M.length + 1) cc)
                    have hz3 : (w2.setCell ⟨(w.heap.size + 1), 0, none⟩ (.slice A2 (M.length + 1) cc)).heap.size = w2.heap.size := by simp [World.setCell]
                    rw [← hz3] at G2
                    clear hz3 hz2
                    generalize w2.setCell ⟨(w.heap.size + 1), 0, none⟩ (.slice A2 (M.length + 1) cc) = w3 at *
                    refine hK.out _ _ trivial (fun hH => ?_)
                    replace hHeld := hH
                    clear hK K hH
                    try simp only [ps]
                    refine wpAnyH_done (by kernel_rfl) ?_ _
                    rw [show (#[Value.slice A M.length c, Value.slice D T.length d].setIfInBounds 0 (.slice A2 (M.length + 1) cc)) = #[.slice A2 (M.length + 1) cc, .slice D T.length d] from rfl] at P_m
                    have HZ := Lib.hid (rblk_lt P_m)
                    have HX := Lib.hid (And.intro G2 (And.intro P_m (And.intro P_r kb)))
                    clear G2 P_m P_r kb ex1 ex2 ey1 ey2
                    go_wp2_with fail
                    go_meet
                    exact ⟨M ++ [⟨(ofO (ofQ (2 * (u : Int) + 1) 2)), (ofO (ofQ (2 * (v : Int) + 1) 2)), a1, a2⟩], A2, cc, _, ⟨by rw [dat_app, HD.out.1, sqP_succ, sqMid_at hu1]; rfl, by rw [List.length_append]; rfl⟩, by rw [List.length_append]; exact HX.out.1, by have := HX.out.1.hh; have := HZ.out; omega, by rw [List.length_append]; exact HX.out.2.1, HX.out.2.2.1, HX.out.2.2.2⟩
                  · skip
                    go_simp
                    refine hK.out _ _ trivial (fun hH => ?_)
                    replace hHeld := hH
                    clear hK K hH
                    try simp only [ps]
                    refine rd1 (i := 1) (by kernel_rfl) rfl (fun K hK => ?_)
                    have t0 := rblk_cell (rblk_below P_m (ba1 _ (.cells #[.bool (ofO (ofQ (2 * (u : Int) + 1) 2)).p, .slice a1.A (ofO (ofQ (2 * (u : Int) + 1) 2)).l.length a1.c, .slice a1.D (ofO (ofQ (2 * (u : Int) + 1) 2)).m.length a1.d, .bool (ofO (ofQ (2 * (v : Int) + 1) 2)).p, .slice a2.A (ofO (ofQ (2 * (v : Int) + 1) 2)).l.length a2.c, .slice a2.D (ofO (ofQ (2 * (v : Int) + 1) 2)).m.length a2.d] 39))) 0
                    go_simp
                    clear t0
                    refine hK.out _ _ trivial (fun hH => ?_)
                    replace hHeld := hH
                    clear hK K hH
                    try simp only [ps]
                    refine rd1 (i := 10) (by kernel_rfl) rfl (fun K hK => ?_)
                    refine wanted_op (by rfl) ?_
                    refine grow_pt_op (.tmp 55) (.tmp 63) rfl G ⟨(ofO (ofQ (2 * (u : Int) + 1) 2)), (ofO (ofQ (2 * (v : Int) + 1) 2)), a1, a2⟩ rfl rfl (by have := HL.out; omega) (by omega) hz0 oq apq ?_
                    intro A2 cc w2 G2 k2 _ _
                    have hz2 := k2.size
                    replace P_m := (k2.block _ (by omega)).trans P_m
                    replace P_r := (k2.block _ (by omega)).trans P_r
                    replace kb := kb.trans (k2.mono (by omega))
                    clear G oq apq k2 hz0
                    refine hK.out _ _ trivial (fun hH => ?_)
                    replace hHeld := hH
                    clear hK K hH
                    try simp only [ps]
                    refine tk (i := 11) (v := ?vg8_10) rfl (by kernel_rfl) (fun _ _ _ h => h) (Or.inl ⟨by rfl, ?hg8_10⟩) hHeld ?_
                    case hg8_10 => (intro w hSw; (try dsimp only at hSw); go_simp; (try with_reducible rfl))
                    try simp only [ps]
                    refine rd1 (i := 12) (by kernel_rfl) rfl (fun K hK => ?_)
                    have t0 := rblk_cell P_m 0
                    have q0 := rblk_free P_m 0
                    go_simp
                    clear t0 q0
                    replace P_r := rblk_other P_r 0 (.slice A2 (M.length + 1) cc) (show (w.heap.size + 1) ≠ w.heap.size by omega)
                    replace P_m := rblk_set P_m 0 (.slice A2 (M.length + 1) cc)
                    replace G2 := G2.put (g := (w.heap.size + 1)) (i := 0) (by omega) (.slice A2 (M.length + 1) cc)
                    replace kb := below_put (o := 0) kb (show w.heap.size ≤ (w.heap.size + 1) by omega) (.slice A2 (M.length + 1) cc)
                    have hz3 : (w2.setCell ⟨(w.heap.size + 1), 0, none⟩ (.slice A2 (M.length + 1) cc)).heap.size = w2.heap.size := by simp [World.setCell]
                    rw [← hz3] at G2
                    clear hz3 hz2
                    generalize w2.setCell ⟨(w.heap.size + 1), 0, none⟩ (.slice A2 (M.length + 1) cc) = w3 at *
                    refine hK.out _ _ trivial (fun hH => ?_)
                    replace hHeld := hH
                    clear hK K hH
                    try simp only [ps]
                    refine wpAnyH_done (by kernel_rfl) ?_ _
                    rw [show (#[Value.slice A M.length c, Value.slice D T.length d].setIfInBounds 0 (.slice A2 (M.length + 1) cc)) = #[.slice A2 (M.length + 1) cc, .slice D T.length d] from rfl] at P_m
                    have HZ := Lib.hid (rblk_lt P_m)
                    have HX := Lib.hid (And.intro G2 (And.intro P_m (And.intro P_r kb)))
                    clear G2 P_m P_r kb ex1 ex2 ey1 ey2
                    go_wp2_with fail
                    go_meet
                    exact ⟨M ++ [⟨(ofO (ofQ (2 * (u : Int) + 1) 2)), (ofO (ofQ (2 * (v : Int) + 1) 2)), a1, a2⟩], A2, cc, _, ⟨by rw [dat_app, HD.out.1, sqP_succ, sqMid_at hu1]; rfl, by rw [List.length_append]; rfl⟩, by rw [List.length_append]; exact HX.out.1, by have := HX.out.1.hh; have := HZ.out; omega, by rw [List.length_append]; exact HX.out.2.1, HX.out.2.2.1, HX.out.2.2.2⟩
              case rest =>
                clear G hB P_m P_r kb
                obtain ⟨M2, A2, cc, hi2, HM, G, hB, P_m, P_r, kb⟩ := hcut
                replace HM := Lib.hid HM
                go_wp2_with fail
                obtain ⟨b0, b1, b2, b3, b4⟩ := blocks5 wc (.cells #[.int .i64 ((v : Int) * 4 + (u : Int)), .int .i64 (((v : Int) * 4 + (u : Int)) + 1)] 3) (.cells #[.int .i64 (((v : Int) * 4 + (u : Int)) + 1), .int .i64 (((v : Int) * 4 + (u : Int)) + 3 + 2)] 3) (.cells #[.int .i64 (((v : Int) * 4 + (u : Int)) + 3 + 2), .int .i64 (((v : Int) * 4 + (u : Int)) + 3 + 1)] 3) (.cells #[.int .i64 (((v : Int) * 4 + (u : Int)) + 3 + 1), .int .i64 ((v : Int) * 4 + (u : Int))] 3) (.cells #[.slice (some ⟨wc.heap.size, 0, none⟩) 2 2, .slice (some ⟨wc.heap.size + 1, 0, none⟩) 2 2, .slice (some ⟨wc.heap.size + 2, 0, none⟩) 2 2, .slice (some ⟨wc.heap.size + 3, 0, none⟩) 2 2] 33)
                have hb := ba5 wc (.cells #[.int .i64 ((v : Int) * 4 + (u : Int)), .int .i64 (((v : Int) * 4 + (u : Int)) + 1)] 3) (.cells #[.int .i64 (((v : Int) * 4 + (u : Int)) + 1), .int .i64 (((v : Int) * 4 + (u : Int)) + 3 + 2)] 3) (.cells #[.int .i64 (((v : Int) * 4 + (u : Int)) + 3 + 2), .int .i64 (((v : Int) * 4 + (u : Int)) + 3 + 1)] 3) (.cells #[.int .i64 (((v : Int) * 4 + (u : Int)) + 3 + 1), .int .i64 ((v : Int) * 4 + (u : Int))] 3) (.cells #[.slice (some ⟨wc.heap.size, 0, none⟩) 2 2, .slice (some ⟨wc.heap.size + 1, 0, none⟩) 2 2, .slice (some ⟨wc.heap.size + 2, 0, none⟩) 2 2, .slice (some ⟨wc.heap.size + 3, 0, none⟩) 2 2] 33)
                have hz := G.hh
                replace P_m := rblk_below P_m hb
                replace P_r := rblk_below P_r hb
                replace G := G.below hb
                replace kb := bt kb hb
                clear hb
                generalize ((((wc.alloc (.cells #[.int .i64 ((v : Int) * 4 + (u : Int)), .int .i64 (((v : Int) * 4 + (u : Int)) + 1)] 3)).alloc (.cells #[.int .i64 (((v : Int) * 4 + (u : Int)) + 1), .int .i64 (((v : Int) * 4 + (u : Int)) + 3 + 2)] 3)).alloc (.cells #[.int .i64 (((v : Int) * 4 + (u : Int)) + 3 + 2), .int .i64 (((v : Int) * 4 + (u : Int)) + 3 + 1)] 3)).alloc (.cells #[.int .i64 (((v : Int) * 4 + (u : Int)) + 3 + 1), .int .i64 ((v : Int) * 4 + (u : Int))] 3)).alloc (.cells #[.slice (some ⟨wc.heap.size, 0, none⟩) 2 2, .slice (some ⟨wc.heap.size + 1, 0, none⟩) 2 2, .slice (some ⟨wc.heap.size + 2, 0, none⟩) 2 2, .slice (some ⟨wc.heap.size + 3, 0, none⟩) 2 2] 33) = W5 at *
                have R : Rows4 W5 wc.heap.size ((v : Int) * 4 + (u : Int)) (((v : Int) * 4 + (u : Int)) + 1) (((v : Int) * 4 + (u : Int)) + 3 + 2) (((v : Int) * 4 + (u : Int)) + 3 + 1) := rows4_mk b0 b1 b2 b3 b4
                clear b0 b1 b2 b3 b4
                generalize wc.heap.size = z at *
                have hgz : w.heap.size + 1 < z := by omega
                go_loopw [94] (fun kv w' => ∃ (j : Nat) (T2 : List TV) (D : Option Addr) (d hi : Nat), j ≤ 4 ∧ kv = .int .i64 (j : Int) ∧ T2 = T ++ (quadT (M.length : Int) ((v : Int) * 4 + (u : Int)) (((v : Int) * 4 + (u : Int)) + 1) (((v : Int) * 4 + (u : Int)) + 3 + 2) (((v : Int) * 4 + (u : Int)) + 3 + 1)).take j ∧ Rows4 w' z ((v : Int) * 4 + (u : Int)) (((v : Int) * 4 + (u : Int)) + 1) (((v : Int) * 4 + (u : Int)) + 3 + 2) (((v : Int) * 4 + (u : Int)) + 3 + 1) ∧ Gm (w.heap.size + 2) hi w' M2 T2 (.slice A2 M2.length cc) (.slice D T2.length d) ∧ w.heap.size + 2 ≤ hi ∧ w'.heap[w.heap.size + 1]? = some (.cells #[.slice A2 M2.length cc, .slice D T2.length d] 25 (0, 0)) ∧ w'.heap[w.heap.size]? = some (.cells #[.slice none 0 0, .slice none 0 0] 25 (0, 0)) ∧ Below w.heap.size w w') (fun kv _ => 4 - (intOf kv).toNat)
                case atStart => exact ⟨0, T, D, d, hi2, by omega, rfl, by simp, R, G, hB, P_m, P_r, kb⟩
                case round =>
                  clear R G hB P_m P_r kb hz
                  obtain ⟨j, T2, D, d, hi, hj, rfl, hT2, R, G, hB, P_m, P_r, kb⟩ := hrel
                  have hl2 : T2.length = T.length + ((quadT (M.length : Int) ((v : Int) * 4 + (u : Int)) (((v : Int) * 4 + (u : Int)) + 1) (((v : Int) * 4 + (u : Int)) + 3 + 2) (((v : Int) * 4 + (u : Int)) + 3 + 1)).take j).length := by rw [hT2, List.length_append]
                  have HT2 := Lib.hid hT2
                  clear hT2
                  by_cases hj1 : j < 4
                  · have hj2 : (j : Int) < 4 := by omega
                    have hl3 : T2.length ≤ 40 := by have h1 := HL.out; rw [hl2, List.length_take]; have : (quadT (M.length : Int) ((v : Int) * 4 + (u : Int)) (((v : Int) * 4 + (u : Int)) + 1) (((v : Int) * 4 + (u : Int)) + 3 + 2) (((v : Int) * 4 + (u : Int)) + 3 + 1)).length = 4 := rfl; omega
                    clear hl2
                    obtain ⟨cs, h4, hc⟩ := R.2
                    have c4 : wr.cell? ⟨z + 4, j, none⟩ = some (.slice (some ⟨z + j, 0, none⟩) 2 2) := (rblk_cell h4 j).trans (hc j hj1)
                    clear h4 hc
                    go_wp2_with fail
                    clear c4
                    have hd0 : Below wr.heap.size wr wr.drew := (Below.refl _ _).drew
                    replace P_m := rblk_below P_m hd0
                    replace P_r := rblk_below P_r hd0
                    replace G := G.below hd0
                    replace kb := bt kb hd0
                    replace R := R.below hd0
                    clear hd0
                    refine wp_region_held_drew (S := fun w' => w'.heap[z + j]? = some (.cells #[.int .i64 (qa ((v : Int) * 4 + (u : Int)) (((v : Int) * 4 + (u : Int)) + 1) (((v : Int) * 4 + (u : Int)) + 3 + 2) (((v : Int) * 4 + (u : Int)) + 3 + 1) j), .int .i64 (qa (((v : Int) * 4 + (u : Int)) + 1) (((v : Int) * 4 + (u : Int)) + 3 + 2) (((v : Int) * 4 + (u : Int)) + 3 + 1) ((v : Int) * 4 + (u : Int)) j)] 3 (0, 0))) (by kernel_rfl) (R.1 j hj1) (fun hHeld => ?_)
                    generalize wr.drew = Wd at *
                    refine tk (i := 0) (v := ?vg9_1) rfl (by kernel_rfl) (fun _ _ _ h => h) (Or.inl ⟨by rfl, ?hg9_1⟩) hHeld ?_
                    case hg9_1 => (intro w hSw; (try dsimp only at hSw); go_simp; (try with_reducible rfl))
                    try simp only [ps]
                    refine tk (i := 2) (v := ?vg9_2) rfl (by kernel_rfl) (fun _ _ _ h => h) (Or.inl ⟨by rfl, ?hg9_2⟩) hHeld ?_
                    case hg9_2 => (intro w hSw; (try dsimp only at hSw); go_simp; (try with_reducible rfl))
                    try simp only [ps]
                    refine tk (i := 3) (v := ?vg9_3) rfl (by kernel_rfl) (fun _ _ _ h => h) (Or.inl ⟨by rfl, ?hg9_3⟩) hHeld ?_
                    case hg9_3 => (intro w hSw; (try dsimp only at hSw); go_simp; (try with_reducible rfl))
                    try simp only [ps]
                    refine tk (i := 4) (v := ?vg9_4) rfl (by kernel_rfl) (fun _ _ _ h => h) (Or.inl ⟨by rfl, ?hg9_4⟩) hHeld ?_
                    case hg9_4 => (intro w hSw; (try dsimp only at hSw); go_simp; (try with_reducible rfl))
                    try simp only [ps]
                    refine tk (i := 5) (v := ?vg9_5) rfl (by kernel_rfl) (fun _ _ _ h => h) (Or.inl ⟨by rfl, ?hg9_5⟩) hHeld ?_
                    case hg9_5 => (intro w hSw; (try dsimp only at hSw); have s0 := rblk_cell hSw 0; go_simp; (try with_reducible rfl))
                    try simp only [ps]
                    refine tk (i := 6) (v := ?vg9_6) rfl (by kernel_rfl) (fun _ _ _ h => h) (Or.inl ⟨by rfl, ?hg9_6⟩) hHeld ?_
                    case hg9_6 => (intro w hSw; (try dsimp only at hSw); go_simp; (try with_reducible rfl))
                    try simp only [ps]
                    refine tk (i := 7) (v := ?vg9_7) rfl (by kernel_rfl) (fun _ _ _ h => h) (Or.inl ⟨by rfl, ?hg9_7⟩) hHeld ?_
                    case hg9_7 => (intro w hSw; (try dsimp only at hSw); go_simp; (try with_reducible rfl))
                    try simp only [ps]
                    refine tk (i := 8) (v := ?vg9_8) rfl (by kernel_rfl) (fun _ _ _ h => h) (Or.inl ⟨by rfl, ?hg9_8⟩) hHeld ?_
                    case hg9_8 => (intro w hSw; (try dsimp only at hSw); have s1 := rblk_cell hSw 1; go_simp; (try with_reducible rfl))
                    try simp only [ps]
                    refine tk (i := 9) (v := ?vg9_9) rfl (by kernel_rfl) (fun _ _ _ h => h) (Or.inl ⟨by rfl, ?hg9_9⟩) hHeld ?_
                    case hg9_9 => (intro w hSw; (try dsimp only at hSw); go_simp; (try with_reducible rfl))
                    try simp only [ps]
                    refine wpAnyH_ready (rs := [1, 10]) (by kernel_rfl) (by simp) ?_
                    refine rc1 rfl (fun K hK => ?_) (rc1 rfl (fun K hK => ?_) AllReadyH.nil)
                    · skip
                      have t0 := rblk_cell P_m 1
                      go_simp
                      clear t0
                      refine hK.out _ _ (R.1 j hj1) (fun hH => ?_)
                      replace hHeld := hH
                      clear hK K hH
                      try simp only [ps]
                      refine rd1 (i := 10) (by kernel_rfl) rfl (fun K hK => ?_)
                      go_simp
                      refine hK.out _ _ ((R.below (ba1 _ _)).1 j hj1) (fun hH => ?_)
                      replace hHeld := hH
                      clear hK K hH
                      try simp only [ps]
                      refine rd1 (i := 11) (by kernel_rfl) rfl (fun K hK => ?_)
                      have hz0 := G.hh
                      have hsz := sz1 Wd (.cells #[.int .i64 (M.length : Int), .int .i64 (qa ((v : Int) * 4 + (u : Int)) (((v : Int) * 4 + (u : Int)) + 1) (((v : Int) * 4 + (u : Int)) + 3 + 2) (((v : Int) * 4 + (u : Int)) + 3 + 1) j), .int .i64 (qa (((v : Int) * 4 + (u : Int)) + 1) (((v : Int) * 4 + (u : Int)) + 3 + 2) (((v : Int) * 4 + (u : Int)) + 3 + 1) ((v : Int) * 4 + (u : Int)) j), .int .i64 0, .int .i64 0] 43)
                      have GA := G.below (ba1 Wd (.cells #[.int .i64 (M.length : Int), .int .i64 (qa ((v : Int) * 4 + (u : Int)) (((v : Int) * 4 + (u : Int)) + 1) (((v : Int) * 4 + (u : Int)) + 3 + 2) (((v : Int) * 4 + (u : Int)) + 3 + 1) j), .int .i64 (qa (((v : Int) * 4 + (u : Int)) + 1) (((v : Int) * 4 + (u : Int)) + 3 + 2) (((v : Int) * 4 + (u : Int)) + 3 + 1) ((v : Int) * 4 + (u : Int)) j), .int .i64 0, .int .i64 0] 43))
                      have RA := R.below (ba1 Wd (.cells #[.int .i64 (M.length : Int), .int .i64 (qa ((v : Int) * 4 + (u : Int)) (((v : Int) * 4 + (u : Int)) + 1) (((v : Int) * 4 + (u : Int)) + 3 + 2) (((v : Int) * 4 + (u : Int)) + 3 + 1) j), .int .i64 (qa (((v : Int) * 4 + (u : Int)) + 1) (((v : Int) * 4 + (u : Int)) + 3 + 2) (((v : Int) * 4 + (u : Int)) + 3 + 1) ((v : Int) * 4 + (u : Int)) j), .int .i64 0, .int .i64 0] 43))
                      have CA := cell_tri Wd ⟨(M.length : Int), qa ((v : Int) * 4 + (u : Int)) (((v : Int) * 4 + (u : Int)) + 1) (((v : Int) * 4 + (u : Int)) + 3 + 2) (((v : Int) * 4 + (u : Int)) + 3 + 1) j, qa (((v : Int) * 4 + (u : Int)) + 1) (((v : Int) * 4 + (u : Int)) + 3 + 2) (((v : Int) * 4 + (u : Int)) + 3 + 1) ((v : Int) * 4 + (u : Int)) j, 0, 0⟩
                      have P_m' := rblk_below P_m (ba1 Wd (.cells #[.int .i64 (M.length : Int), .int .i64 (qa ((v : Int) * 4 + (u : Int)) (((v : Int) * 4 + (u : Int)) + 1) (((v : Int) * 4 + (u : Int)) + 3 + 2) (((v : Int) * 4 + (u : Int)) + 3 + 1) j), .int .i64 (qa (((v : Int) * 4 + (u : Int)) + 1) (((v : Int) * 4 + (u : Int)) + 3 + 2) (((v : Int) * 4 + (u : Int)) + 3 + 1) ((v : Int) * 4 + (u : Int)) j), .int .i64 0, .int .i64 0] 43))
                      have P_r' := rblk_below P_r (ba1 Wd (.cells #[.int .i64 (M.length : Int), .int .i64 (qa ((v : Int) * 4 + (u : Int)) (((v : Int) * 4 + (u : Int)) + 1) (((v : Int) * 4 + (u : Int)) + 3 + 2) (((v : Int) * 4 + (u : Int)) + 3 + 1) j), .int .i64 (qa (((v : Int) * 4 + (u : Int)) + 1) (((v : Int) * 4 + (u : Int)) + 3 + 2) (((v : Int) * 4 + (u : Int)) + 3 + 1) ((v : Int) * 4 + (u : Int)) j), .int .i64 0, .int .i64 0] 43))
                      have kb' := bt kb (ba1 Wd (.cells #[.int .i64 (M.length : Int), .int .i64 (qa ((v : Int) * 4 + (u : Int)) (((v : Int) * 4 + (u : Int)) + 1) (((v : Int) * 4 + (u : Int)) + 3 + 2) (((v : Int) * 4 + (u : Int)) + 3 + 1) j), .int .i64 (qa (((v : Int) * 4 + (u : Int)) + 1) (((v : Int) * 4 + (u : Int)) + 3 + 2) (((v : Int) * 4 + (u : Int)) + 3 + 1) ((v : Int) * 4 + (u : Int)) j), .int .i64 0, .int .i64 0] 43))
                      refine wanted_op (by rfl) ?_
                      refine grow_tri_op (.tmp 99) (.tmp 108) rfl GA [⟨(M.length : Int), qa ((v : Int) * 4 + (u : Int)) (((v : Int) * 4 + (u : Int)) + 1) (((v : Int) * 4 + (u : Int)) + 3 + 2) (((v : Int) * 4 + (u : Int)) + 3 + 1) j, qa (((v : Int) * 4 + (u : Int)) + 1) (((v : Int) * 4 + (u : Int)) + 3 + 2) (((v : Int) * 4 + (u : Int)) + 3 + 1) ((v : Int) * 4 + (u : Int)) j, 0, 0⟩] ⟨Wd.heap.size, 0, none⟩ 1 rfl rfl CA (by simp only [List.length_cons, List.length_nil]; omega) (by omega) ?_
                      intro D2 dd w5 G5 k5 _ kp
                      have R5 := RA.keep (fun i hi => kp _ (RA.off GA.ot i hi) (by have := RA.lt; omega))
                      have hz5 := k5.size
                      replace P_m := (k5.block _ (by omega)).trans P_m'
                      replace P_r := (k5.block _ (by omega)).trans P_r'
                      replace kb := kb'.trans (k5.mono (by omega))
                      clear G GA R RA CA P_m' P_r' kb' k5 kp
                      refine hK.out _ _ (R5.1 j hj1) (fun hH => ?_)
                      replace hHeld := hH
                      clear hK K hH
                      try simp only [ps]
                      refine tk (i := 12) (v := ?vg9_10) rfl (by kernel_rfl) (fun _ _ _ h => h) (Or.inl ⟨by rfl, ?hg9_10⟩) hHeld ?_
                      case hg9_10 => (intro w hSw; (try dsimp only at hSw); go_simp; (try with_reducible rfl))
                      try simp only [ps]
                      refine rd1 (i := 13) (by kernel_rfl) rfl (fun K hK => ?_)
                      have t0 := rblk_cell P_m 1
                      have q0 := rblk_free P_m 1
                      go_simp
                      clear t0 q0
                      replace P_r := rblk_other P_r 1 (.slice D2 (T2.length + 1) dd) (show (w.heap.size + 1) ≠ w.heap.size by omega)
                      replace R5 := R5.put (g := (w.heap.size + 1)) (i := 1) hgz (.slice D2 (T2.length + 1) dd)
                      replace P_m := rblk_set P_m 1 (.slice D2 (T2.length + 1) dd)
                      replace G5 := G5.put (g := (w.heap.size + 1)) (i := 1) (by omega) (.slice D2 (T2.length + 1) dd)
                      replace kb := below_put (o := 1) kb (show w.heap.size ≤ (w.heap.size + 1) by omega) (.slice D2 (T2.length + 1) dd)
                      have hz3 : (w5.setCell ⟨(w.heap.size + 1), 1, none⟩ (.slice D2 (T2.length + 1) dd)).heap.size = w5.heap.size := by simp [World.setCell]
                      rw [← hz3] at G5 hz5
                      clear hz3
                      generalize w5.setCell ⟨(w.heap.size + 1), 1, none⟩ (.slice D2 (T2.length + 1) dd) = w6 at *
                      refine hK.out _ _ (R5.1 j hj1) (fun hH => ?_)
                      replace hHeld := hH
                      clear hK K hH
                      try simp only [ps]
                      refine wpAnyH_done (by kernel_rfl) ?_ _
                      rw [show (#[Value.slice A2 M2.length cc, Value.slice D T2.length d].setIfInBounds 1 (.slice D2 (T2.length + 1) dd)) = #[.slice A2 M2.length cc, .slice D2 (T2.length + 1) dd] from rfl] at P_m
                      have HZ : Hid (w.heap.size + 2 ≤ w6.heap.size) := Lib.hid (by omega)
                      have HX := Lib.hid (And.intro R5 (And.intro G5 (And.intro P_m (And.intro P_r kb))))
                      clear R5 G5 P_m P_r kb hHeld hz0 hsz hz5
                      go_wp2
                      go_roundw
                      case rel => exact ⟨j + 1, T2 ++ [⟨(M.length : Int), qa ((v : Int) * 4 + (u : Int)) (((v : Int) * 4 + (u : Int)) + 1) (((v : Int) * 4 + (u : Int)) + 3 + 2) (((v : Int) * 4 + (u : Int)) + 3 + 1) j, qa (((v : Int) * 4 + (u : Int)) + 1) (((v : Int) * 4 + (u : Int)) + 3 + 2) (((v : Int) * 4 + (u : Int)) + 3 + 1) ((v : Int) * 4 + (u : Int)) j, 0, 0⟩], D2, dd, _, by omega, by go_num, by rw [HT2.out, quad_take _ _ _ _ _ hj1, List.append_assoc], HX.out.1, by rw [List.length_append]; exact HX.out.2.1, HZ.out, by rw [List.length_append]; exact HX.out.2.2.1, HX.out.2.2.2.1, HX.out.2.2.2.2⟩
                      case measure => simp [intOf]; omega
                    · skip
                      go_simp
                      refine hK.out _ _ ((R.below (ba1 _ _)).1 j hj1) (fun hH => ?_)
                      replace hHeld := hH
                      clear hK K hH
                      try simp only [ps]
                      refine rd1 (i := 1) (by kernel_rfl) rfl (fun K hK => ?_)
                      have t0 := rblk_cell (rblk_below P_m (ba1 _ (.cells #[.int .i64 (M.length : Int), .int .i64 (qa ((v : Int) * 4 + (u : Int)) (((v : Int) * 4 + (u : Int)) + 1) (((v : Int) * 4 + (u : Int)) + 3 + 2) (((v : Int) * 4 + (u : Int)) + 3 + 1) j), .int .i64 (qa (((v : Int) * 4 + (u : Int)) + 1) (((v : Int) * 4 + (u : Int)) + 3 + 2) (((v : Int) * 4 + (u : Int)) + 3 + 1) ((v : Int) * 4 + (u : Int)) j), .int .i64 0, .int .i64 0] 43))) 1
                      go_simp
                      clear t0
                      refine hK.out _ _ ((R.below (ba1 _ _)).1 j hj1) (fun hH => ?_)
                      replace hHeld := hH
                      clear hK K hH
                      try simp only [ps]
                      refine rd1 (i := 11) (by kernel_rfl) rfl (fun K hK => ?_)
                      have hz0 := G.hh
                      have hsz := sz1 Wd (.cells #[.int .i64 (M.length : Int), .int .i64 (qa ((v : Int) * 4 + (u : Int)) (((v : Int) * 4 + (u : Int)) + 1) (((v : Int) * 4 + (u : Int)) + 3 + 2) (((v : Int) * 4 + (u : Int)) + 3 + 1) j), .int .i64 (qa (((v : Int) * 4 + (u : Int)) + 1) (((v : Int) * 4 + (u : Int)) + 3 + 2) (((v : Int) * 4 + (u : Int)) + 3 + 1) ((v : Int) * 4 + (u : Int)) j), .int .i64 0, .int .i64 0] 43)
                      have GA := G.below (ba1 Wd (.cells #[.int .i64 (M.length : Int), .int .i64 (qa ((v : Int) * 4 + (u : Int)) (((v : Int) * 4 + (u : Int)) + 1) (((v : Int) * 4 + (u : Int)) + 3 + 2) (((v : Int) * 4 + (u : Int)) + 3 + 1) j), .int .i64 (qa (((v : Int) * 4 + (u : Int)) + 1) (((v : Int) * 4 + (u : Int)) + 3 + 2) (((v : Int) * 4 + (u : Int)) + 3 + 1) ((v : Int) * 4 + (u : Int)) j), .int .i64 0, .int .i64 0] 43))
                      have RA := R.below (ba1 Wd (.cells #[.int .i64 (M.length : Int), .int .i64 (qa ((v : Int) * 4 + (u : Int)) (((v : Int) * 4 + (u : Int)) + 1) (((v : Int) * 4 + (u : Int)) + 3 + 2) (((v : Int) * 4 + (u : Int)) + 3 + 1) j), .int .i64 (qa (((v : Int) * 4 + (u : Int)) + 1) (((v : Int) * 4 + (u : Int)) + 3 + 2) (((v : Int) * 4 + (u : Int)) + 3 + 1) ((v : Int) * 4 + (u : Int)) j), .int .i64 0, .int .i64 0] 43))
                      have CA := cell_tri Wd ⟨(M.length : Int), qa ((v : Int) * 4 + (u : Int)) (((v : Int) * 4 + (u : Int)) + 1) (((v : Int) * 4 + (u : Int)) + 3 + 2) (((v : Int) * 4 + (u : Int)) + 3 + 1) j, qa (((v : Int) * 4 + (u : Int)) + 1) (((v : Int) * 4 + (u : Int)) + 3 + 2) (((v : Int) * 4 + (u : Int)) + 3 + 1) ((v : Int) * 4 + (u : Int)) j, 0, 0⟩
                      have P_m' := rblk_below P_m (ba1 Wd (.cells #[.int .i64 (M.length : Int), .int .i64 (qa ((v : Int) * 4 + (u : Int)) (((v : Int) * 4 + (u : Int)) + 1) (((v : Int) * 4 + (u : Int)) + 3 + 2) (((v : Int) * 4 + (u : Int)) + 3 + 1) j), .int .i64 (qa (((v : Int) * 4 + (u : Int)) + 1) (((v : Int) * 4 + (u : Int)) + 3 + 2) (((v : Int) * 4 + (u : Int)) + 3 + 1) ((v : Int) * 4 + (u : Int)) j), .int .i64 0, .int .i64 0] 43))
                      have P_r' := rblk_below P_r (ba1 Wd (.cells #[.int .i64 (M.length : Int), .int .i64 (qa ((v : Int) * 4 + (u : Int)) (((v : Int) * 4 + (u : Int)) + 1) (((v : Int) * 4 + (u : Int)) + 3 + 2) (((v : Int) * 4 + (u : Int)) + 3 + 1) j), .int .i64 (qa (((v : Int) * 4 + (u : Int)) + 1) (((v : Int) * 4 + (u : Int)) + 3 + 2) (((v : Int) * 4 + (u : Int)) + 3 + 1) ((v : Int) * 4 + (u : Int)) j), .int .i64 0, .int .i64 0] 43))
                      have kb' := bt kb (ba1 Wd (.cells #[.int .i64 (M.length : Int), .int .i64 (qa ((v : Int) * 4 + (u : Int)) (((v : Int) * 4 + (u : Int)) + 1) (((v : Int) * 4 + (u : Int)) + 3 + 2) (((v : Int) * 4 + (u : Int)) + 3 + 1) j), .int .i64 (qa (((v : Int) * 4 + (u : Int)) + 1) (((v : Int) * 4 + (u : Int)) + 3 + 2) (((v : Int) * 4 + (u : Int)) + 3 + 1) ((v : Int) * 4 + (u : Int)) j), .int .i64 0, .int .i64 0] 43))
                      refine wanted_op (by rfl) ?_
                      refine grow_tri_op (.tmp 99) (.tmp 108) rfl GA [⟨(M.length : Int), qa ((v : Int) * 4 + (u : Int)) (((v : Int) * 4 + (u : Int)) + 1) (((v : Int) * 4 + (u : Int)) + 3 + 2) (((v : Int) * 4 + (u : Int)) + 3 + 1) j, qa (((v : Int) * 4 + (u : Int)) + 1) (((v : Int) * 4 + (u : Int)) + 3 + 2) (((v : Int) * 4 + (u : Int)) + 3 + 1) ((v : Int) * 4 + (u : Int)) j, 0, 0⟩] ⟨Wd.heap.size, 0, none⟩ 1 rfl rfl CA (by simp only [List.length_cons, List.length_nil]; omega) (by omega) ?_
                      intro D2 dd w5 G5 k5 _ kp
                      have R5 := RA.keep (fun i hi => kp _ (RA.off GA.ot i hi) (by have := RA.lt; omega))
                      have hz5 := k5.size
                      replace P_m := (k5.block _ (by omega)).trans P_m'
                      replace P_r := (k5.block _ (by omega)).trans P_r'
                      replace kb := kb'.trans (k5.mono (by omega))
                      clear G GA R RA CA P_m' P_r' kb' k5 kp
                      refine hK.out _ _ (R5.1 j hj1) (fun hH => ?_)
                      replace hHeld := hH
                      clear hK K hH
                      try simp only [ps]
                      refine tk (i := 12) (v := ?vg9_11) rfl (by kernel_rfl) (fun _ _ _ h => h) (Or.inl ⟨by rfl, ?hg9_11⟩) hHeld ?_
                      case hg9_11 => (intro w hSw; (try dsimp only at hSw); go_simp; (try with_reducible rfl))
                      try simp only [ps]
                      refine rd1 (i := 13) (by kernel_rfl) rfl (fun K hK => ?_)
                      have t0 := rblk_cell P_m 1
                      have q0 := rblk_free P_m 1
                      go_simp
                      clear t0 q0
                      replace P_r := rblk_other P_r 1 (.slice D2 (T2.length + 1) dd) (show (w.heap.size + 1) ≠ w.heap.size by omega)
                      replace R5 := R5.put (g := (w.heap.size + 1)) (i := 1) hgz (.slice D2 (T2.length + 1) dd)
                      replace P_m := rblk_set P_m 1 (.slice D2 (T2.length + 1) dd)
                      replace G5 := G5.put (g := (w.heap.size + 1)) (i := 1) (by omega) (.slice D2 (T2.length + 1) dd)
                      replace kb := below_put (o := 1) kb (show w.heap.size ≤ (w.heap.size + 1) by omega) (.slice D2 (T2.length + 1) dd)
                      have hz3 : (w5.setCell ⟨(w.heap.size + 1), 1, none⟩ (.slice D2 (T2.length + 1) dd)).heap.size = w5.heap.size := by simp [World.setCell]
                      rw [← hz3] at G5 hz5
                      clear hz3
                      generalize w5.setCell ⟨(w.heap.size + 1), 1, none⟩ (.slice D2 (T2.length + 1) dd) = w6 at *
                      refine hK.out _ _ (R5.1 j hj1) (fun hH => ?_)
                      replace hHeld := hH
                      clear hK K hH
                      try simp only [ps]
                      refine wpAnyH_done (by kernel_rfl) ?_ _
                      rw [show (#[Value.slice A2 M2.length cc, Value.slice D T2.length d].setIfInBounds 1 (.slice D2 (T2.length + 1) dd)) = #[.slice A2 M2.length cc, .slice D2 (T2.length + 1) dd] from rfl] at P_m
                      have HZ : Hid (w.heap.size + 2 ≤ w6.heap.size) := Lib.hid (by omega)
                      have HX := Lib.hid (And.intro R5 (And.intro G5 (And.intro P_m (And.intro P_r kb))))
                      clear R5 G5 P_m P_r kb hHeld hz0 hsz hz5
                      go_wp2
                      go_roundw
                      case rel => exact ⟨j + 1, T2 ++ [⟨(M.length : Int), qa ((v : Int) * 4 + (u : Int)) (((v : Int) * 4 + (u : Int)) + 1) (((v : Int) * 4 + (u : Int)) + 3 + 2) (((v : Int) * 4 + (u : Int)) + 3 + 1) j, qa (((v : Int) * 4 + (u : Int)) + 1) (((v : Int) * 4 + (u : Int)) + 3 + 2) (((v : Int) * 4 + (u : Int)) + 3 + 1) ((v : Int) * 4 + (u : Int)) j, 0, 0⟩], D2, dd, _, by omega, by go_num, by rw [HT2.out, quad_take _ _ _ _ _ hj1, List.append_assoc], HX.out.1, by rw [List.length_append]; exact HX.out.2.1, HZ.out, by rw [List.length_append]; exact HX.out.2.2.1, HX.out.2.2.2.1, HX.out.2.2.2.2⟩
                      case measure => simp [intOf]; omega
                  · have hj2 : ¬ (j : Int) < 4 := by omega
                    have e4 : T2 = sqT 3 (v * 3 + (u + 1)) := by
                      rw [HT2.out, show j = 4 by omega, ← Nat.add_assoc, sqT_succ, HD.out.2]; congr 1; have := HE.out; exact quad_eq (by omega) (by rw [sqLow_at hu1]; omega) (by rw [sqLow_at hu1]; omega) (by rw [sqLow_at hu1]; omega) (by rw [sqLow_at hu1]; omega)
                    have HX := Lib.hid (And.intro e4 (And.intro G (And.intro hB (And.intro P_m (And.intro P_r kb)))))
                    clear e4 R G hB P_m P_r kb hl2
                    go_wp2
                    go_roundw
                    case rel => exact ⟨u + 1, M2, T2, A2, D, cc, d, hi, by omega, by go_num, by rw [HM.out.1, Nat.add_assoc], HX.out⟩
                    case measure => simp [intOf]; omega
            · have hu2 : ¬ (u : Int) < 3 := by omega
              have HX := Lib.hid (And.intro G (And.intro hB (And.intro P_m (And.intro P_r kb))))
              clear G hB P_m P_r kb
              go_wp2
              go_roundw
              case rel => exact ⟨v + 1, M, T, A, D, c, d, hi, by omega, by go_num, by rw [HD.out.1]; congr 1; omega, by rw [HD.out.2]; congr 1; omega, HX.out⟩
              case measure => simp [intOf]; omega
        · have hv2 : ¬ (v : Int) < 3 := by omega
          obtain rfl : v = 3 := by omega
          have r0 := rblk_cell P_r 0
          have r1 := rblk_cell P_r 1
          have q0 := rblk_free P_r 0
          have q1 := rblk_free P_r 1
          have HX := Lib.hid (((G.put (g := w.heap.size) (i := 0) (by omega) (.slice A M.length c)).put (g := w.heap.size) (i := 1) (by omega) (.slice D T.length d)).made (B0 := w.heap.size) (m := mvOf (sqP 3 9) (sqT 3 9)) (by omega) (by rw [datM_of, hd, hT]) (w := w) (below_put (o := 1) (below_put (o := 0) kb (Nat.le_refl _) (.slice A M.length c)) (Nat.le_refl _) (.slice D T.length d)))
          have PZ := rblk_set (rblk_set P_r 0 (.slice A M.length c)) 1 (.slice D T.length d)
          have z0 := rblk_cell PZ 0
          have z1 := rblk_cell PZ 1
          have t0 := rblk_cell P_m 0
          have t1 := rblk_cell P_m 1
          clear hd hT
          go_wp2
          exact bodyPost_ret (v := .agg #[.slice A M.length c, .slice D T.length d]) (by simp [results, Try.results5, go_sem, z0, z1]) rfl HX.out
theorem spec_square (n : Int) (w : World) : Calls Try.prog 5 #[.int .i64 n] w (MadeMi w.heap.size (sqM n) w) := by
  have hc : n = 1 ∨ n = 2 ∨ n = 3 ∨ n < 1 ∨ 3 < n := by omega
  rcases hc with rfl | rfl | rfl | h | h
  · exact spec_square_1 w
  · exact spec_square_2 w
  · exact spec_square_3 w
  all_goals
    have e : sqM n = mvOf [] [] := by
      unfold sqM
      rw [if_neg (by omega), if_neg (by omega), if_neg (by omega)]
    rw [e]
    exact spec_square_no n w (by omega)
end Go.Proofs.Ytjcbaiphkchehaa
