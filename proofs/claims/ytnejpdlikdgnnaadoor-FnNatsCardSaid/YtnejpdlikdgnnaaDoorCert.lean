/-
  'certainSteps' of the program: the steps of Euclid's algorithm that the heads allow.
-/
import Derived.Test.YtnejpdlikdgnnaaDoorDivN
namespace Go.Proofs.YtnejpdlikdgnnaaDoor
open Go.ChangeShapes Go.WideShapes Go.ChangeAt Go.RowKit
open Go.ChangeMaps (open_string shut_string)
set_option linter.unusedVariables false
set_option linter.unusedSimpArgs false
set_option maxRecDepth 4000

/-- All four coefficients stay within the base. -/
def Coef (fa fb na nb : Int) : Prop := (-1000000000 ≤ fa ∧ fa ≤ 1000000000) ∧ (-1000000000 ≤ fb ∧ fb ≤ 1000000000) ∧ (-1000000000 ≤ na ∧ na ≤ 1000000000) ∧ (-1000000000 ≤ nb ∧ nb ≤ 1000000000)
theorem small_of {k xa x : Int} (h0 : 0 ≤ k) (hxa : 1000000000 < xa) (h : k * xa ≤ x) (hx : x < 1000000000000000000) : k ≤ 1000000000 := by
  have h1 : k * 1000000000 ≤ k * xa := Int.mul_le_mul_of_nonneg_left (by omega) h0
  omega
theorem Leh.bounds {x y A B fa fb na nb xa yb X Y : Int} (h : Leh x y A B fa fb na nb xa yb X Y) (hxa : 1000000000 < xa) (hx : x < 1000000000000000000) (hyx : y ≤ x) :
    (-1000000000 ≤ na ∧ na ≤ 1000000000) ∧ (-1000000000 ≤ nb ∧ nb ≤ 1000000000) := by
  have hyb := h.ord.1
  rcases h.par with ⟨p1, p2, p3, p4, p5, p6⟩ | ⟨p1, p2, p3, p4, p5, p6⟩
  · have m1 : 0 ≤ (-fb) * yb := Int.mul_nonneg (by omega) hyb
    have m2 : 0 ≤ fa * yb := Int.mul_nonneg p1 hyb
    rw [Int.neg_mul] at m1
    have b1 := small_of (k := nb) (by omega) hxa (by omega) hx
    have b2 := small_of (k := -na) (x := y) (by omega) hxa (by rw [Int.neg_mul]; omega) (by omega)
    omega
  · have m1 : 0 ≤ fb * yb := Int.mul_nonneg p2 hyb
    have m2 : 0 ≤ (-fa) * yb := Int.mul_nonneg (by omega) hyb
    rw [Int.neg_mul] at m2
    have b1 := small_of (k := -nb) (x := x) (by omega) hxa (by rw [Int.neg_mul]; omega) hx
    have b2 := small_of (k := na) (x := y) (by omega) hxa (by omega) (by omega)
    omega

theorem Leh.strict {x y A B fa fb na nb xa yb X Y q : Int} (h : Leh x y A B fa fb na nb xa yb X Y) (hda : 0 < yb + na) (hdb : 0 < yb + nb) (h0 : 0 ≤ q) (h1 : q = (xa + fa) / (yb + na)) (h2 : q = (xa + fb) / (yb + nb)) : xa - q * yb < yb := by
  obtain ⟨_, u1⟩ := le_div_both hda h1
  obtain ⟨_, u2⟩ := le_div_both hdb h2
  rw [Int.mul_add, Int.add_mul, Int.one_mul] at u1 u2
  rcases h.par with ⟨p1, p2, p3, p4, _⟩ | ⟨p1, p2, p3, p4, _⟩
  · have : 0 ≤ (q + 1) * (-na) := Int.mul_nonneg (by omega) (by omega)
    rw [Int.mul_neg] at this
    omega
  · have : 0 ≤ (q + 1) * (-nb) := Int.mul_nonneg (by omega) (by omega)
    rw [Int.mul_neg] at this
    omega
theorem row_setCell {w : World} {g : Nat} {t : TypeId} {cs : Array Value} (h : w.heap[g]? = some (.cells cs t (0, 0))) (i : Nat) (u : Value) : (w.setCell ⟨g, i, none⟩ u).heap[g]? = some (.cells (cs.setIfInBounds i u) t (0, 0)) := by
  simp [World.setCell, Array.getElem?_modify, h]
theorem row_four {w : World} {g : Nat} {t : TypeId} {a b c d a' b' c' d' : Value} (h : w.heap[g]? = some (.cells #[a, b, c, d] t (0, 0))) :
    ((((w.setCell ⟨g, 0, none⟩ a').setCell ⟨g, 1, none⟩ b').setCell ⟨g, 2, none⟩ c').setCell ⟨g, 3, none⟩ d').heap[g]? = some (.cells #[a', b', c', d'] t (0, 0)) :=
  row_setCell (row_setCell (row_setCell (row_setCell h 0 a') 1 b') 2 c') 3 d'
theorem steps_info : (Tryd.prog.info? 78).map (·.size) = some 4 := by kernel_rfl

/-- What 'certainSteps' answers. -/
def CertPost (x y A B : Int) (w : World) (e : Ending) (w' : World) : Prop :=
  ∃ fa fb na nb xa yb X Y : Int, e = .returned (.agg #[.int .i64 fa, .int .i64 fb, .int .i64 na, .int .i64 nb]) ∧ Leh x y A B fa fb na nb xa yb X Y ∧ Coef fa fb na nb ∧ Below w.heap.size w w'

set_option maxHeartbeats 800000 in
theorem cert_any (x y : Nat) (A B D α β : Int) (w : World) (hx : x < 1000000000000000000) (hyx : y ≤ x) (hB0 : 0 ≤ B) (hAB : B ≤ A)
    (hA : A = (x : Int) * D + α) (hB : B = (y : Int) * D + β) (hD : 0 < D) (ha0 : 0 ≤ α) (ha1 : α ≤ D) (hb0 : 0 ≤ β) (hb1 : β ≤ D) :
    Calls Tryd.prog 64 #[.int .i64 (x : Int), .int .i64 (y : Int)] w (CertPost x y A B w) := by
  have hst := Lib.hid (Leh.start (x := (x : Int)) (y := (y : Int)) (A := A) (B := B) (by omega) (by omega) hB0 hAB)
  have HStep := Lib.hid (fun fa fb na nb xa yb X Y q (h : Leh (x : Int) (y : Int) A B fa fb na nb xa yb X Y) => h.step (q := q) hA hB hD ha0 ha1 hb0 hb1)
  have hw2 : ((w.alloc (.cells #[.int .i64 0, .int .i64 0, .int .i64 0, .int .i64 0] 78)).alloc (.cells #[.int .i64 1, .int .i64 0, .int .i64 0, .int .i64 1] 78)).heap[w.heap.size + 1]? = some (.cells #[.int .i64 1, .int .i64 0, .int .i64 0, .int .i64 1] 78 (0, 0)) := by
    have := heap_alloc_new (w.alloc (.cells #[.int .i64 0, .int .i64 0, .int .i64 0, .int .i64 0] 78)) (.cells #[.int .i64 1, .int .i64 0, .int .i64 0, .int .i64 1] 78)
    simpa using this
  have hw1 : ((w.alloc (.cells #[.int .i64 0, .int .i64 0, .int .i64 0, .int .i64 0] 78)).alloc (.cells #[.int .i64 1, .int .i64 0, .int .i64 0, .int .i64 1] 78)).heap[w.heap.size]? = some (.cells #[.int .i64 0, .int .i64 0, .int .i64 0, .int .i64 0] 78 (0, 0)) := by
    have h1 := heap_alloc_new w (.cells #[.int .i64 0, .int .i64 0, .int .i64 0, .int .i64 0] 78)
    have h2 : Below (w.heap.size + 1) (w.alloc (.cells #[.int .i64 0, .int .i64 0, .int .i64 0, .int .i64 0] 78)) ((w.alloc (.cells #[.int .i64 0, .int .i64 0, .int .i64 0, .int .i64 0] 78)).alloc (.cells #[.int .i64 1, .int .i64 0, .int .i64 0, .int .i64 1] 78)) := (Below.refl _ _).alloc (by simp) _
    rw [h2.block _ (Nat.lt_succ_self _)]
    exact h1
  have hbw : Below w.heap.size w ((w.alloc (.cells #[.int .i64 0, .int .i64 0, .int .i64 0, .int .i64 0] 78)).alloc (.cells #[.int .i64 1, .int .i64 0, .int .i64 0, .int .i64 1] 78)) := ((Below.refl _ _).alloc (Nat.le_refl _) _).alloc (by simp) _
  clear hA hB hD ha0 ha1 hb0 hb1 hB0 hAB
  go_enter Tryd.func64, Tryd.ntmps64
  go_wp2_with fail
  go_loopw [0, 1] (fun a b w' => ∃ fa fb na nb xa yb X Y : Int, a = .int .i64 xa ∧ b = .int .i64 yb ∧ Leh x y A B fa fb na nb xa yb X Y ∧ Coef fa fb na nb ∧ w'.heap[w.heap.size + 1]? = some (.cells #[.int .i64 fa, .int .i64 fb, .int .i64 na, .int .i64 nb] 78 (0, 0)) ∧ w'.heap[w.heap.size]? = some (.cells #[.int .i64 0, .int .i64 0, .int .i64 0, .int .i64 0] 78 (0, 0)) ∧ xa ≤ x ∧ Below w.heap.size w w') (fun _ b _ => (intOf b).toNat)
  case atStart => exact ⟨1, 0, 0, 1, _, _, _, _, rfl, rfl, hst.out, by unfold Coef; omega, hw2, hw1, Int.le_refl _, hbw⟩
  case round =>
    clear hst hw2 hw1 hbw
    obtain ⟨fa, fb, na, nb, xa, yb, X, Y, rfl, rfl, hL, hC, hh, hr, hxa, hb⟩ := hrel
    have HL := Lib.hid hL
    have hord := hL.ord
    have HC := Lib.hid hC
    clear hL
    obtain ⟨⟨a1, a2⟩, ⟨b1, b2⟩, ⟨c1, c2⟩, d1, d2⟩ := hC
    have k0 : wr.cell? ⟨w.heap.size + 1, 0, none⟩ = some (.int .i64 fa) := by rw [cell_of_row wr _ 0 _ _ (0, 0) hh]; rfl
    have k1 : wr.cell? ⟨w.heap.size + 1, 1, none⟩ = some (.int .i64 fb) := by rw [cell_of_row wr _ 1 _ _ (0, 0) hh]; rfl
    have k2 : wr.cell? ⟨w.heap.size + 1, 2, none⟩ = some (.int .i64 na) := by rw [cell_of_row wr _ 2 _ _ (0, 0) hh]; rfl
    have k3 : wr.cell? ⟨w.heap.size + 1, 3, none⟩ = some (.int .i64 nb) := by rw [cell_of_row wr _ 3 _ _ (0, 0) hh]; rfl
    have r0 : wr.cell? ⟨w.heap.size, 0, none⟩ = some (.int .i64 0) := by rw [cell_of_row wr _ 0 _ _ (0, 0) hr]; rfl
    have r1 : wr.cell? ⟨w.heap.size, 1, none⟩ = some (.int .i64 0) := by rw [cell_of_row wr _ 1 _ _ (0, 0) hr]; rfl
    have r2 : wr.cell? ⟨w.heap.size, 2, none⟩ = some (.int .i64 0) := by rw [cell_of_row wr _ 2 _ _ (0, 0) hr]; rfl
    have r3 : wr.cell? ⟨w.heap.size, 3, none⟩ = some (.int .i64 0) := by rw [cell_of_row wr _ 3 _ _ (0, 0) hr]; rfl
    have fz : ∀ o, wr.frozen? ⟨w.heap.size, o, none⟩ = false := fun o => by unfold World.frozen?; rw [hr]; simp
    have fz' : ∀ o, wr.frozen? ⟨w.heap.size + 1, o, none⟩ = false := fun o => by unfold World.frozen?; rw [hh]; simp
    have g0 := fz 0
    have g1 := fz 1
    have g2 := fz 2
    have g3 := fz 3
    have g0' := fz' 0
    have g1' := fz' 1
    have g2' := fz' 2
    have g3' := fz' 3
    clear fz fz'
    by_cases hbig : 1000000000 < yb
    · have hxb : 1000000000 < xa := by omega
      obtain ⟨q, hq⟩ : ∃ q, q = (xa + fa) / (yb + na) := ⟨_, rfl⟩
      obtain ⟨q2, hq2⟩ : ∃ q, q = (xa + fb) / (yb + nb) := ⟨_, rfl⟩
      have t1 : (xa + fa).tdiv (yb + na) = q := by rw [hq]; exact Int.tdiv_eq_ediv_of_nonneg (by omega)
      have t2 : (xa + fb).tdiv (yb + nb) = q2 := by rw [hq2]; exact Int.tdiv_eq_ediv_of_nonneg (by omega)
      have z1 : ¬ yb + na = 0 := by omega
      have z2 : ¬ yb + nb = 0 := by omega
      have q0 : 0 ≤ q := by rw [hq]; exact Int.ediv_nonneg (by omega) (by omega)
      have q1 : q ≤ xa + fa := by rw [hq]; exact Int.ediv_le_self _ (by omega)
      have q20 : 0 ≤ q2 := by rw [hq2]; exact Int.ediv_nonneg (by omega) (by omega)
      have q21 : q2 ≤ xa + fb := by rw [hq2]; exact Int.ediv_le_self _ (by omega)
      have HQ := Lib.hid hq
      have HQ2 := Lib.hid hq2
      clear hq hq2
      by_cases he : q = q2
      · subst he
        obtain ⟨hL', hq1, _, _⟩ := HStep.out fa fb na nb xa yb X Y q HL.out (by omega) (by omega) HQ.out HQ2.out
        have hstr := HL.out.strict (by omega) (by omega) q0 HQ.out HQ2.out
        obtain ⟨⟨e1, e2⟩, e3, e4⟩ := hL'.bounds hbig (by omega) (by omega)
        have hord' := hL'.ord
        have HL' := Lib.hid hL'
        have HO := Lib.hid (And.intro hord' hstr)
        have o1 : -2000000000 ≤ q * na ∧ q * na ≤ 2000000000 := by omega
        have o2 : -2000000000 ≤ q * nb ∧ q * nb ≤ 2000000000 := by omega
        have o3 : 0 ≤ q * yb ∧ q * yb ≤ xa := by have := Int.mul_nonneg q0 (show (0 : Int) ≤ yb by omega); omega
        have hne : (q != q) = false := by simp
        obtain ⟨o11, o12⟩ := o1
        obtain ⟨o21, o22⟩ := o2
        obtain ⟨o31, o32⟩ := o3
        clear hL' hord' hstr
        go_wp2_with fail
        go_roundw
        case rel =>
          refine ⟨na, nb, fa - q * na, fb - q * nb, yb, xa - q * yb, Y, X - q * Y, rfl, rfl, HL'.out, ?_, row_four hh, ?_, by have := HL.out.ord; omega, ?_⟩
          · unfold Coef; omega
          · rw [Below.heap_setCell _ _ _ _ (by simp), Below.heap_setCell _ _ _ _ (by simp), Below.heap_setCell _ _ _ _ (by simp), Below.heap_setCell _ _ _ _ (by simp)]
            exact hr
          · exact (((hb.setCell (by simp) _).setCell (by simp) _).setCell (by simp) _).setCell (by simp) _
        case measure => have := HO.out; simp [intOf]; omega
      · have hne : (q != q2) = true := by rw [bne_iff_ne]; exact he
        clear he
        go_wp2_with fail
        exact bodyPost_ret (v := .agg #[.int .i64 fa, .int .i64 fb, .int .i64 na, .int .i64 nb]) (results_cell_row rfl _ _ w.heap.size _ _ (0, 0) _ rfl (row_four hr) Tryd.underlying78 rfl steps_info) rfl ⟨fa, fb, na, nb, xa, yb, X, Y, rfl, HL.out, HC.out, (((hb.setCell (Nat.le_refl _) _).setCell (Nat.le_refl _) _).setCell (Nat.le_refl _) _).setCell (Nat.le_refl _) _⟩
    · have hbi : ¬ 1000000000 < yb := hbig
      go_wp2_with fail
      exact bodyPost_ret (v := .agg #[.int .i64 fa, .int .i64 fb, .int .i64 na, .int .i64 nb]) (results_cell_row rfl _ _ w.heap.size _ _ (0, 0) _ rfl (row_four hr) Tryd.underlying78 rfl steps_info) rfl ⟨fa, fb, na, nb, xa, yb, X, Y, rfl, HL.out, HC.out, (((hb.setCell (Nat.le_refl _) _).setCell (Nat.le_refl _) _).setCell (Nat.le_refl _) _).setCell (Nat.le_refl _) _⟩
end Go.Proofs.YtnejpdlikdgnnaaDoor
