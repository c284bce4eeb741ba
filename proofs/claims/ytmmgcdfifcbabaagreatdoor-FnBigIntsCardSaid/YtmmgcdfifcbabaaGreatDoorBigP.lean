/-
  Big integers of the program: 'plus', 'times', 'order'.
-/
import Derived.Test.YtmmgcdfifcbabaaGreatDoorBigM
import Derived.Deep.RegionHeld3
import Derived.Deep.DeepCutAuto
namespace Go.Proofs.YtmmgcdfifcbabaaGreatDoor
open Go.ChangeShapes Go.WideShapes Go.ChangeAt Go.RowKit
open Go.ChangeMaps (open_string shut_string)
set_option linter.unusedVariables false
set_option linter.unusedSimpArgs false
set_option maxRecDepth 4000

theorem cell_kept {W W' : World} {b o : Nat} {v : Value} (h : W.cell? ⟨b, o, none⟩ = some v) (hb : Below W.heap.size W W') : W'.cell? ⟨b, o, none⟩ = some v := by
  rw [hb.cell (p := ⟨b, o, none⟩) (World.block_lt_of_cell? W _ h)]; exact h
theorem Two.below {W W' : World} {g : Nat} (h : Two W g) (hb : Below W.heap.size W W') : Two W' g := by
  obtain ⟨u, v, h1, h2, h3, h4⟩ := h
  have hl := World.block_lt_of_cell? W _ h1
  exact ⟨u, v, cell_kept h1 hb, cell_kept h2 hb, by rw [hb.frozen (p := ⟨g, 0, none⟩) hl]; exact h3, by rw [hb.frozen (p := ⟨g, 1, none⟩) hl]; exact h4⟩
theorem cell_put {W : World} {b o g k : Nat} {v u : Value} (h : W.cell? ⟨b, o, none⟩ = some v) (hne : g ≠ b) : (W.setCell ⟨g, k, none⟩ u).cell? ⟨b, o, none⟩ = some v := by
  rw [World.cell?_setCell_other W ⟨g, k, none⟩ ⟨b, o, none⟩ u (by intro q; injection q with q1 _; exact hne q1)]; exact h
theorem Two.put {W : World} {g k : Nat} {u : Value} (h : Two W g) : Two (W.setCell ⟨g, k, none⟩ u) g := by
  obtain ⟨x, y, h1, h2, h3, h4⟩ := h
  have h1' : ∃ x', (W.setCell ⟨g, k, none⟩ u).cell? ⟨g, 0, none⟩ = some x' := by
    by_cases e : k = 0
    · subst e; exact ⟨u, World.cell?_setCell_same W ⟨g, 0, none⟩ u h1⟩
    · exact ⟨x, by rw [World.cell?_setCell_other W ⟨g, k, none⟩ ⟨g, 0, none⟩ u (by intro q; injection q with _ q2; exact e q2)]; exact h1⟩
  have h2' : ∃ x', (W.setCell ⟨g, k, none⟩ u).cell? ⟨g, 1, none⟩ = some x' := by
    by_cases e : k = 1
    · subst e; exact ⟨u, World.cell?_setCell_same W ⟨g, 1, none⟩ u h2⟩
    · exact ⟨y, by rw [World.cell?_setCell_other W ⟨g, k, none⟩ ⟨g, 1, none⟩ u (by intro q; injection q with _ q2; exact e q2)]; exact h2⟩
  obtain ⟨x', hx⟩ := h1'
  obtain ⟨y', hy⟩ := h2'
  exact ⟨x', y', hx, hy, by rw [World.frozen?_setCell]; exact h3, by rw [World.frozen?_setCell]; exact h4⟩
theorem Two.own {W w5 w : World} {r : Nat} {A : Option Addr} {l : List Value} (ht : Two W r) (ho : OwnS W.heap.size w5 A l) (hw : Below w.heap.size w W) (u u' : Value) : OwnS w.heap.size ((w5.setCell ⟨r, 0, none⟩ u).setCell ⟨r, 1, none⟩ u') A l := by
  obtain ⟨x, y, h1, _⟩ := ht
  have hl := World.block_lt_of_cell? W _ h1
  exact ((ho.put hl u).put hl u').more hw.size
/-- Three cells that a region reads, its result's two, and what it leaves alone: kept by a call, kept by the store of the result. -/
theorem kept3 {r b1 o1 b2 o2 b3 o3 : Nat} {v1 v2 v3 : Value} {W W' w : World} (h1 : W.cell? ⟨b1, o1, none⟩ = some v1) (h2 : W.cell? ⟨b2, o2, none⟩ = some v2) (h3 : W.cell? ⟨b3, o3, none⟩ = some v3) (ht : Two W r) (hw : Below w.heap.size w W) (hb : Below W.heap.size W W') :
    W'.cell? ⟨b1, o1, none⟩ = some v1 ∧ W'.cell? ⟨b2, o2, none⟩ = some v2 ∧ W'.cell? ⟨b3, o3, none⟩ = some v3 ∧ Two W' r ∧ Below w.heap.size w W' :=
  ⟨cell_kept h1 hb, cell_kept h2 hb, cell_kept h3 hb, ht.below hb, bt hw hb⟩
theorem put3 {r b1 o1 b2 o2 b3 o3 : Nat} {v1 v2 v3 : Value} {W w : World} (u u' : Value) (h1 : W.cell? ⟨b1, o1, none⟩ = some v1) (h2 : W.cell? ⟨b2, o2, none⟩ = some v2) (h3 : W.cell? ⟨b3, o3, none⟩ = some v3) (ht : Two W r) (hw : Below w.heap.size w W) (hr : w.heap.size ≤ r) (n1 : r ≠ b1) (n2 : r ≠ b2) (n3 : r ≠ b3) :
    ((W.setCell ⟨r, 0, none⟩ u).setCell ⟨r, 1, none⟩ u').cell? ⟨b1, o1, none⟩ = some v1 ∧ ((W.setCell ⟨r, 0, none⟩ u).setCell ⟨r, 1, none⟩ u').cell? ⟨b2, o2, none⟩ = some v2 ∧ ((W.setCell ⟨r, 0, none⟩ u).setCell ⟨r, 1, none⟩ u').cell? ⟨b3, o3, none⟩ = some v3 ∧ Two ((W.setCell ⟨r, 0, none⟩ u).setCell ⟨r, 1, none⟩ u') r ∧ Below w.heap.size w ((W.setCell ⟨r, 0, none⟩ u).setCell ⟨r, 1, none⟩ u') :=
  ⟨cell_put (cell_put h1 n1) n1, cell_put (cell_put h2 n2) n2, cell_put (cell_put h3 n3) n3, ht.put.put, below_put (below_put hw hr _) hr _⟩

theorem box0 (w : World) (T : TypeId) (x y : Value) : (w.alloc (.cells #[x, y] T)).cell? ⟨w.heap.size, 0, none⟩ = some x := by
  have h := cell_of_row _ _ 0 _ _ (0, 0) (heap_alloc_new w (.cells #[x, y] T))
  exact h
theorem box1 (w : World) (T : TypeId) (x y : Value) : (w.alloc (.cells #[x, y] T)).cell? ⟨w.heap.size, 1, none⟩ = some y := by
  have h := cell_of_row _ _ 1 _ _ (0, 0) (heap_alloc_new w (.cells #[x, y] T))
  exact h
theorem boxf (w : World) (T : TypeId) (x y : Value) (k : Nat) : (w.alloc (.cells #[x, y] T)).frozen? ⟨w.heap.size, k, none⟩ = false := by
  have h := heap_alloc_new w (.cells #[x, y] T)
  unfold World.frozen?; rw [h]; simp
theorem boxT (w : World) (T : TypeId) (x y : Value) : Two (w.alloc (.cells #[x, y] T)) w.heap.size := ⟨x, y, box0 w T x y, box1 w T x y, boxf w T x y 0, boxf w T x y 1⟩
theorem boxes3 (w : World) (T1 T2 T3 : TypeId) (x1 y1 x2 y2 x3 y3 : Value) (W : World) (hW : ((w.alloc (.cells #[x1, y1] T1)).alloc (.cells #[x2, y2] T2)).alloc (.cells #[x3, y3] T3) = W) :
    W.cell? ⟨w.heap.size, 0, none⟩ = some x1 ∧ W.cell? ⟨w.heap.size, 1, none⟩ = some y1 ∧ W.cell? ⟨w.heap.size + 1, 0, none⟩ = some x2 ∧ W.cell? ⟨w.heap.size + 1, 1, none⟩ = some y2 ∧ Two W (w.heap.size + 1 + 1) ∧ Below w.heap.size w W := by
  subst hW
  have h2 := ba1 ((w.alloc (.cells #[x1, y1] T1)).alloc (.cells #[x2, y2] T2)) (.cells #[x3, y3] T3)
  have h1 := ba2 (w.alloc (.cells #[x1, y1] T1)) (.cells #[x2, y2] T2) (.cells #[x3, y3] T3)
  have e1 := sz1 w (.cells #[x1, y1] T1)
  have e2 := sz2 w (.cells #[x1, y1] T1) (.cells #[x2, y2] T2)
  refine ⟨cell_kept (box0 w T1 x1 y1) h1, cell_kept (box1 w T1 x1 y1) h1, ?_, ?_, ?_, ba3 _ _ _ _⟩
  · have := box0 (w.alloc (.cells #[x1, y1] T1)) T2 x2 y2
    rw [e1] at this
    exact cell_kept this h2
  · have := box1 (w.alloc (.cells #[x1, y1] T1)) T2 x2 y2
    rw [e1] at this
    exact cell_kept this h2
  · have := boxT ((w.alloc (.cells #[x1, y1] T1)).alloc (.cells #[x2, y2] T2)) T3 x3 y3
    rw [e2] at this
    exact this

theorem Two.lt {W : World} {r : Nat} (h : Two W r) : r + 1 ≤ W.heap.size := by
  obtain ⟨x, y, h1, _⟩ := h
  exact World.block_lt_of_cell? W _ h1
/-- Four cells that a region reads, its result's two, and what it leaves alone. -/
theorem kept4 {r b1 o1 b2 o2 b3 o3 b4 o4 : Nat} {v1 v2 v3 v4 : Value} {W W' w : World} (h1 : W.cell? ⟨b1, o1, none⟩ = some v1) (h2 : W.cell? ⟨b2, o2, none⟩ = some v2) (h3 : W.cell? ⟨b3, o3, none⟩ = some v3) (h4 : W.cell? ⟨b4, o4, none⟩ = some v4) (ht : Two W r) (hw : Below w.heap.size w W) (hb : Below W.heap.size W W') :
    W'.cell? ⟨b1, o1, none⟩ = some v1 ∧ W'.cell? ⟨b2, o2, none⟩ = some v2 ∧ W'.cell? ⟨b3, o3, none⟩ = some v3 ∧ W'.cell? ⟨b4, o4, none⟩ = some v4 ∧ Two W' r ∧ Below w.heap.size w W' :=
  ⟨cell_kept h1 hb, cell_kept h2 hb, cell_kept h3 hb, cell_kept h4 hb, ht.below hb, bt hw hb⟩
theorem put4 {r b1 o1 b2 o2 b3 o3 b4 o4 : Nat} {v1 v2 v3 v4 : Value} {W w : World} (u u' : Value) (h1 : W.cell? ⟨b1, o1, none⟩ = some v1) (h2 : W.cell? ⟨b2, o2, none⟩ = some v2) (h3 : W.cell? ⟨b3, o3, none⟩ = some v3) (h4 : W.cell? ⟨b4, o4, none⟩ = some v4) (ht : Two W r) (hw : Below w.heap.size w W) (hr : w.heap.size ≤ r) (n1 : r ≠ b1) (n2 : r ≠ b2) (n3 : r ≠ b3) (n4 : r ≠ b4) :
    ((W.setCell ⟨r, 0, none⟩ u).setCell ⟨r, 1, none⟩ u').cell? ⟨b1, o1, none⟩ = some v1 ∧ ((W.setCell ⟨r, 0, none⟩ u).setCell ⟨r, 1, none⟩ u').cell? ⟨b2, o2, none⟩ = some v2 ∧ ((W.setCell ⟨r, 0, none⟩ u).setCell ⟨r, 1, none⟩ u').cell? ⟨b3, o3, none⟩ = some v3 ∧ ((W.setCell ⟨r, 0, none⟩ u).setCell ⟨r, 1, none⟩ u').cell? ⟨b4, o4, none⟩ = some v4 ∧ Two ((W.setCell ⟨r, 0, none⟩ u).setCell ⟨r, 1, none⟩ u') r ∧ Below w.heap.size w ((W.setCell ⟨r, 0, none⟩ u).setCell ⟨r, 1, none⟩ u') :=
  ⟨cell_put (cell_put h1 n1) n1, cell_put (cell_put h2 n2) n2, cell_put (cell_put h3 n3) n3, cell_put (cell_put h4 n4) n4, ht.put.put, below_put (below_put hw hr _) hr _⟩

set_option maxHeartbeats 1000000 in
theorem plus_same (p : Bool) (a b : Nat) (A D : Option Addr) (n c n' d : Nat) (w : World) (hn : ln a = n) (hn' : ln b = n') (h60 : n ≤ 60) (h60' : n' ≤ 60) (hA : RdS w A (vi (nd a))) (hD : RdS w D (vi (nd b))) :
    Calls Tryz.prog 20 #[.agg #[.bool p, .slice A n c], .agg #[.bool p, .slice D n' d]] w (MadeB w.heap.size p (cap60 (a + b)) w) := by
  have HS := Lib.hid (fun W h h' => sum_any a b A D n c n' d W hn hn' h60 h60' h h')
  have HR : Hid (∀ W, Below w.heap.size w W → RdS W A (vi (nd a)) ∧ RdS W D (vi (nd b))) := Lib.hid (fun W hb => ⟨hA.below hb, hD.below hb⟩)
  clear hn hn' hA hD
  generalize cap60 (a + b) = L at HS ⊢
  go_enter Tryz.func20, Tryz.ntmps20
  go_wp2_with fail
  generalize hW : ((w.alloc (.cells #[.bool p, .slice A n c] 46)).alloc (.cells #[.bool p, .slice D n' d] 46)).alloc (.cells #[.bool false, .slice none 0 0] 46) = W3
  obtain ⟨k0, k1, k2, k3, kt, kb⟩ := boxes3 _ _ _ _ _ _ _ _ _ _ _ hW
  clear hW
  obtain ⟨r, hr⟩ : ∃ r, r = w.heap.size + 1 + 1 := ⟨_, rfl⟩
  rw [← hr] at kt ⊢
  have hr1 : r ≠ w.heap.size := by omega
  have hr2 : r ≠ w.heap.size + 1 := by omega
  have hr3 : w.heap.size ≤ r := by omega
  clear hr
  go_region_held3 (fun w' => w'.cell? ⟨w.heap.size, 0, none⟩ = some (.bool p) ∧ w'.cell? ⟨w.heap.size, 1, none⟩ = some (.slice A n c) ∧ w'.cell? ⟨w.heap.size + 1, 0, none⟩ = some (.bool p) ∧ w'.cell? ⟨w.heap.size + 1, 1, none⟩ = some (.slice D n' d) ∧ Two w' r ∧ Below w.heap.size w w')
    (first | (exact ⟨k0, k1, k2, k3, kt, kb.drew⟩) | (go_split_ands; exact kept4 (by assumption) (by assumption) (by assumption) (by assumption) (by assumption) (by assumption) hbc) | (go_split_ands; exact put4 _ _ (by assumption) (by assumption) (by assumption) (by assumption) (by assumption) (by assumption) hr3 hr1 hr1 hr2 hr2))
    (first | (go_at_call 42; go_split_ands; refine (HS.out _ (HR.out _ (by assumption)).1 (HR.out _ (by assumption)).2).mono ?_; rintro e w5 ⟨A5, c5, rfl, hc5, hO5, hbc⟩; obtain ⟨u0, u1, t1, t2, t3, t4⟩ := Two.below (by assumption) hbc; have hOO := Two.own (by assumption) hO5 (by assumption)))
  have hfin := (‹_ ∧ _ ∧ _ ∧ _ ∧ _ ∧ Below w.heap.size w _›).2.2.2.2.2
  go_wp2
  exact bodyPost_ret (v := .agg #[.bool p, .slice A5 L.length c5]) (by simp [results, Tryz.results20, go_sem, t1, t2]) rfl ⟨A5, c5, rfl, hc5, hOO _ _, hfin⟩

set_option maxHeartbeats 1000000 in
theorem plus_less (p q : Bool) (a b : Nat) (A D : Option Addr) (n c n' d : Nat) (w : World) (hpq : (p == q) = false) (hab : a < b) (hn : ln a = n) (hn' : ln b = n') (h60 : n ≤ 60) (h60' : n' ≤ 60) (hA : RdS w A (vi (nd a))) (hD : RdS w D (vi (nd b))) :
    Calls Tryz.prog 20 #[.agg #[.bool p, .slice A n c], .agg #[.bool q, .slice D n' d]] w (MadeB w.heap.size q (if a ≤ b then nd (b - a) else []) w) := by
  have HC := Lib.hid (fun W h h' => mcmp_any a b A D n c n' d W hn hn' (by omega) (by omega) h h')
  have hv : cmpN a b < 0 := by rw [cmpN_lt hab]; decide
  clear hab
  generalize cmpN a b = v at HC hv
  have HS := Lib.hid (fun W h h' => diff_any b a D A n' d n c W hn' hn h60' h60 h' h)
  have HR : Hid (∀ W, Below w.heap.size w W → RdS W A (vi (nd a)) ∧ RdS W D (vi (nd b))) := Lib.hid (fun W hb => ⟨hA.below hb, hD.below hb⟩)
  clear hn hn' hA hD
  generalize (if a ≤ b then nd (b - a) else []) = L at HS ⊢
  go_enter Tryz.func20, Tryz.ntmps20
  go_wp2_with fail
  generalize hW : ((w.alloc (.cells #[.bool p, .slice A n c] 46)).alloc (.cells #[.bool q, .slice D n' d] 46)).alloc (.cells #[.bool false, .slice none 0 0] 46) = W3
  obtain ⟨k0, k1, k2, k3, kt, kb⟩ := boxes3 _ _ _ _ _ _ _ _ _ _ _ hW
  clear hW
  obtain ⟨r, hr⟩ : ∃ r, r = w.heap.size + 1 + 1 := ⟨_, rfl⟩
  rw [← hr] at kt ⊢
  have hr1 : r ≠ w.heap.size := by omega
  have hr2 : r ≠ w.heap.size + 1 := by omega
  have hr3 : w.heap.size ≤ r := by omega
  clear hr
  refine (HC.out _ (HR.out _ kb).1 (HR.out _ kb).2).mono ?_
  rintro e w4 ⟨rfl, hb4⟩
  replace k0 := cell_kept k0 hb4
  replace k1 := cell_kept k1 hb4
  replace k2 := cell_kept k2 hb4
  replace k3 := cell_kept k3 hb4
  replace kt := kt.below hb4
  replace kb := bt kb hb4
  clear hb4
  go_wp2_with fail
  go_region_held3 (fun w' => w'.cell? ⟨w.heap.size, 0, none⟩ = some (.bool p) ∧ w'.cell? ⟨w.heap.size, 1, none⟩ = some (.slice A n c) ∧ w'.cell? ⟨w.heap.size + 1, 0, none⟩ = some (.bool q) ∧ w'.cell? ⟨w.heap.size + 1, 1, none⟩ = some (.slice D n' d) ∧ Two w' r ∧ Below w.heap.size w w')
    (first | (exact ⟨k0, k1, k2, k3, kt, kb.drew⟩) | (go_split_ands; exact kept4 (by assumption) (by assumption) (by assumption) (by assumption) (by assumption) (by assumption) hbc) | (go_split_ands; exact put4 _ _ (by assumption) (by assumption) (by assumption) (by assumption) (by assumption) (by assumption) hr3 hr1 hr1 hr2 hr2))
    (first | (go_at_call 44; go_split_ands; refine (HS.out _ (HR.out _ (by assumption)).1 (HR.out _ (by assumption)).2).mono ?_; rintro e w5 ⟨A5, c5, rfl, hc5, hO5, hbc⟩; obtain ⟨u0, u1, t1, t2, t3, t4⟩ := Two.below (by assumption) hbc; have hOO := Two.own (by assumption) hO5 (by assumption)))
  have hfin := (‹_ ∧ _ ∧ _ ∧ _ ∧ _ ∧ Below w.heap.size w _›).2.2.2.2.2
  go_wp2
  exact bodyPost_ret (v := .agg #[.bool q, .slice A5 L.length c5]) (by simp [results, Tryz.results20, go_sem, t1, t2]) rfl ⟨A5, c5, rfl, hc5, hOO _ _, hfin⟩

set_option maxHeartbeats 1000000 in
theorem plus_geq (p q : Bool) (a b : Nat) (A D : Option Addr) (n c n' d : Nat) (w : World) (hpq : (p == q) = false) (hab : ¬ a < b) (hn : ln a = n) (hn' : ln b = n') (h60 : n ≤ 60) (h60' : n' ≤ 60) (hA : RdS w A (vi (nd a))) (hD : RdS w D (vi (nd b))) :
    Calls Tryz.prog 20 #[.agg #[.bool p, .slice A n c], .agg #[.bool q, .slice D n' d]] w (MadeB w.heap.size p (if b ≤ a then nd (a - b) else []) w) := by
  have HC := Lib.hid (fun W h h' => mcmp_any a b A D n c n' d W hn hn' (by omega) (by omega) h h')
  have hv : ¬ cmpN a b < 0 := by
    rcases Nat.lt_or_ge b a with h | h
    · rw [cmpN_gt h]; decide
    · rw [cmpN_eq (by omega)]; decide
  clear hab
  generalize cmpN a b = v at HC hv
  have HS := Lib.hid (fun W h h' => diff_any a b A D n c n' d W hn hn' h60 h60' h h')
  have HR : Hid (∀ W, Below w.heap.size w W → RdS W A (vi (nd a)) ∧ RdS W D (vi (nd b))) := Lib.hid (fun W hb => ⟨hA.below hb, hD.below hb⟩)
  clear hn hn' hA hD
  generalize (if b ≤ a then nd (a - b) else []) = L at HS ⊢
  go_enter Tryz.func20, Tryz.ntmps20
  go_wp2_with fail
  generalize hW : ((w.alloc (.cells #[.bool p, .slice A n c] 46)).alloc (.cells #[.bool q, .slice D n' d] 46)).alloc (.cells #[.bool false, .slice none 0 0] 46) = W3
  obtain ⟨k0, k1, k2, k3, kt, kb⟩ := boxes3 _ _ _ _ _ _ _ _ _ _ _ hW
  clear hW
  obtain ⟨r, hr⟩ : ∃ r, r = w.heap.size + 1 + 1 := ⟨_, rfl⟩
  rw [← hr] at kt ⊢
  have hr1 : r ≠ w.heap.size := by omega
  have hr2 : r ≠ w.heap.size + 1 := by omega
  have hr3 : w.heap.size ≤ r := by omega
  clear hr
  refine (HC.out _ (HR.out _ kb).1 (HR.out _ kb).2).mono ?_
  rintro e w4 ⟨rfl, hb4⟩
  replace k0 := cell_kept k0 hb4
  replace k1 := cell_kept k1 hb4
  replace k2 := cell_kept k2 hb4
  replace k3 := cell_kept k3 hb4
  replace kt := kt.below hb4
  replace kb := bt kb hb4
  clear hb4
  go_wp2_with fail
  go_region_held3 (fun w' => w'.cell? ⟨w.heap.size, 0, none⟩ = some (.bool p) ∧ w'.cell? ⟨w.heap.size, 1, none⟩ = some (.slice A n c) ∧ w'.cell? ⟨w.heap.size + 1, 0, none⟩ = some (.bool q) ∧ w'.cell? ⟨w.heap.size + 1, 1, none⟩ = some (.slice D n' d) ∧ Two w' r ∧ Below w.heap.size w w')
    (first | (exact ⟨k0, k1, k2, k3, kt, kb.drew⟩) | (go_split_ands; exact kept4 (by assumption) (by assumption) (by assumption) (by assumption) (by assumption) (by assumption) hbc) | (go_split_ands; exact put4 _ _ (by assumption) (by assumption) (by assumption) (by assumption) (by assumption) (by assumption) hr3 hr1 hr1 hr2 hr2))
    (first | (go_at_call 44; go_split_ands; refine (HS.out _ (HR.out _ (by assumption)).1 (HR.out _ (by assumption)).2).mono ?_; rintro e w5 ⟨A5, c5, rfl, hc5, hO5, hbc⟩; obtain ⟨u0, u1, t1, t2, t3, t4⟩ := Two.below (by assumption) hbc; have hOO := Two.own (by assumption) hO5 (by assumption)))
  have hfin := (‹_ ∧ _ ∧ _ ∧ _ ∧ _ ∧ Below w.heap.size w _›).2.2.2.2.2
  go_wp2
  exact bodyPost_ret (v := .agg #[.bool p, .slice A5 L.length c5]) (by simp [results, Tryz.results20, go_sem, t1, t2]) rfl ⟨A5, c5, rfl, hc5, hOO _ _, hfin⟩

/-- The sign and the magnitude of the sum. -/
def plusB (p : Bool) (a : Nat) (q : Bool) (b : Nat) : Bool := if p = q then p else if a < b then q else p
def plusN (p : Bool) (a : Nat) (q : Bool) (b : Nat) : Nat := if p = q then a + b else if a < b then b - a else a - b
theorem plus_any (p q : Bool) (a b : Nat) (A D : Option Addr) (n c n' d : Nat) (w : World) (hn : ln a = n) (hn' : ln b = n') (h60 : n ≤ 60) (h60' : n' ≤ 60) (hA : RdS w A (vi (nd a))) (hD : RdS w D (vi (nd b))) :
    Calls Tryz.prog 20 #[.agg #[.bool p, .slice A n c], .agg #[.bool q, .slice D n' d]] w (MadeB w.heap.size (plusB p a q b) (cap60 (plusN p a q b)) w) := by
  by_cases hpq : p = q
  · subst hpq
    have h := plus_same p a b A D n c n' d w hn hn' h60 h60' hA hD
    simpa [plusB, plusN] using h
  · have hq : (p == q) = false := by simpa using hpq
    by_cases hab : a < b
    · have h := plus_less p q a b A D n c n' d w hq hab hn hn' h60 h60' hA hD
      rw [if_pos (by omega)] at h
      unfold plusB plusN
      rw [if_neg hpq, if_pos hab, if_neg hpq, if_pos hab, cap60_yes' (by have := ln_mono (show b - a ≤ b by omega); omega)]
      exact h
    · have h := plus_geq p q a b A D n c n' d w hq hab hn hn' h60 h60' hA hD
      rw [if_pos (by omega)] at h
      unfold plusB plusN
      rw [if_neg hpq, if_neg hab, if_neg hpq, if_neg hab, cap60_yes' (by have := ln_mono (show a - b ≤ a by omega); omega)]
      exact h
theorem plus_z (x y : Int) : (if plusB (zn x) x.natAbs (zn y) y.natAbs then -((plusN (zn x) x.natAbs (zn y) y.natAbs : Nat) : Int) else (plusN (zn x) x.natAbs (zn y) y.natAbs : Nat)) = x + y := by
  unfold plusB plusN zn
  by_cases hx : x < 0 <;> by_cases hy : y < 0 <;> by_cases hab : x.natAbs < y.natAbs <;> simp [hx, hy, hab] <;> omega
end Go.Proofs.YtmmgcdfifcbabaaGreatDoor
