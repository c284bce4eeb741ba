/-
  The built-in L: the model.
-/
import Derived.Test.YtjcbaiphkchehaaCoI
import Derived.Test.YtjcbaiphkchehaaPtS
import Derived.Test.YtjcbaiphkchehaaTk
namespace Go.Proofs.Ytjcbaiphkchehaa
open Go.ChangeShapes Go.WideShapes Go.ChangeAt Go.RowKit
open Go.ChangeMaps (open_string shut_string)
set_option linter.unusedVariables false
set_option linter.unusedSimpArgs false
set_option maxRecDepth 4000

theorem blocks7 (w : World) (o1 o2 o3 o4 o5 o6 o7 : Obj) : (((((((w.alloc o1).alloc o2).alloc o3).alloc o4).alloc o5).alloc o6).alloc o7).heap[w.heap.size]? = some o1 ∧ (((((((w.alloc o1).alloc o2).alloc o3).alloc o4).alloc o5).alloc o6).alloc o7).heap[w.heap.size + 1]? = some o2 ∧ (((((((w.alloc o1).alloc o2).alloc o3).alloc o4).alloc o5).alloc o6).alloc o7).heap[w.heap.size + 2]? = some o3 ∧ (((((((w.alloc o1).alloc o2).alloc o3).alloc o4).alloc o5).alloc o6).alloc o7).heap[w.heap.size + 3]? = some o4 ∧ (((((((w.alloc o1).alloc o2).alloc o3).alloc o4).alloc o5).alloc o6).alloc o7).heap[w.heap.size + 4]? = some o5 ∧ (((((((w.alloc o1).alloc o2).alloc o3).alloc o4).alloc o5).alloc o6).alloc o7).heap[w.heap.size + 5]? = some o6 ∧ (((((((w.alloc o1).alloc o2).alloc o3).alloc o4).alloc o5).alloc o6).alloc o7).heap[w.heap.size + 6]? = some o7 := by
  obtain ⟨h1, h2, h3⟩ := blocks3 w o1 o2 o3
  have hs : (((w.alloc o1).alloc o2).alloc o3).heap.size = w.heap.size + 3 := by simp
  obtain ⟨h4, h5, h6⟩ := blocks3 (((w.alloc o1).alloc o2).alloc o3) o4 o5 o6
  have hs6 : ((((((w.alloc o1).alloc o2).alloc o3).alloc o4).alloc o5).alloc o6).heap.size = w.heap.size + 6 := by simp
  have h7 := heap_alloc_new ((((((w.alloc o1).alloc o2).alloc o3).alloc o4).alloc o5).alloc o6) o7
  rw [hs] at h4 h5 h6
  rw [hs6] at h7
  have hb := ba3 (((w.alloc o1).alloc o2).alloc o3) o4 o5 o6
  have hb7 := ba1 ((((((w.alloc o1).alloc o2).alloc o3).alloc o4).alloc o5).alloc o6) o7
  exact ⟨rblk_below (rblk_below h1 hb) hb7, rblk_below (rblk_below h2 hb) hb7, rblk_below (rblk_below h3 hb) hb7, rblk_below h4 hb7, rblk_below h5 hb7, rblk_below h6 hb7, h7⟩
theorem ba7 (w : World) (o1 o2 o3 o4 o5 o6 o7 : Obj) : Below w.heap.size w (((((((w.alloc o1).alloc o2).alloc o3).alloc o4).alloc o5).alloc o6).alloc o7) := bt (bt (ba3 w o1 o2 o3) (ba3 _ o4 o5 o6)) (ba1 _ o7)
theorem grown_put (w : World) (g j : Nat) (v : Value) : w.grownBy (w.setCell ⟨g, j, none⟩ v) (some g) :=
  ⟨rfl, rfl, rfl, by simp [World.setCell], fun k hk hd => Below.heap_setCell w ⟨g, j, none⟩ v k (fun e => hd (by rw [e]))⟩
theorem offG_range {lo hi g : Nat} {w : World} {rs : List (Option Addr × List Value)} (h : Owns lo hi w rs) (hg : g < lo ∨ hi ≤ g) : OffG g rs := fun r hr e => by
  have := (h r hr).2 g e
  omega
theorem OffG.app {g : Nat} {rs ss : List (Option Addr × List Value)} (h : OffG g rs) (h' : OffG g ss) : OffG g (rs ++ ss) := fun r hr => by
  rcases List.mem_append.1 hr with e | e
  · exact h r e
  · exact h' r e
theorem acc_call {B hi : Nat} {W W' : World} {M : List PV} {q : PV} (oa : Owns B hi W (lrow M)) (apa : Aparts (lrow M)) (hh : hi ≤ W.heap.size) (hB : B ≤ W.heap.size) (hb : Below W.heap.size W W') (oq : Owns W.heap.size W'.heap.size W' (prow q)) (apq : Aparts (prow q)) : Owns B W'.heap.size W' (lrow (M ++ [q])) ∧ Aparts (lrow (M ++ [q])) := by
  rw [lrow_app, lrow_one]
  have hz := hb.size
  exact ⟨Owns.app ((oa.below hb).wide (Nat.le_refl _) (by omega)) (oq.wide hB (Nat.le_refl _)), Aparts.app apa apq oa (oq.wide hh (Nat.le_refl _))⟩
/-- A cell of a block that holds none of the mesh's rows is written. -/
theorem Gm.putx {B hi g i : Nat} {w : World} {M : List PV} {T : List TV} {v u : Value} {c : Array Value} {T' : TypeId} {z : Nat × Nat} (h : Gm B hi w M T v u) (P : w.heap[g]? = some (.cells c T' z)) (h1 : 39 ≠ T') (h2 : 43 ≠ T') (ho : OffG g (lrow M)) (x : Value) : Gm B hi (w.setCell ⟨g, i, none⟩ x) M T v u :=
  ⟨h.op.kept (grown_put w g i x) (.inr (own_ne h1 h.op P)), h.ot.kept (grown_put w g i x) (.inr (own_ne h2 h.ot P)), owns_grown h.rows (grown_put w g i x) (fun k e => by injection e with e; subst e; exact ho), h.ap, h.off, h.hv, h.hu, Nat.le_trans h.hh (grown_put w g i x).size⟩
/-- Rows of three numbers, and the row of rows. -/
def Rows6 (W : World) (z : Nat) : Prop := (∀ j, j < 6 → W.heap[z + j]? = some (.cells #[.int .i64 (ca j), .int .i64 (cb j), .int .i64 (cc j)] 3 (0, 0))) ∧ ∃ cs, W.heap[z + 6]? = some (.cells cs 33 (0, 0)) ∧ ∀ j, j < 6 → cs[j]? = some (.slice (some ⟨z + j, 0, none⟩) 3 3)
theorem rows6_mk {W : World} {z : Nat} (h0 : W.heap[z]? = some (.cells #[.int .i64 1, .int .i64 4, .int .i64 0] 3 (0, 0))) (h1 : W.heap[z + 1]? = some (.cells #[.int .i64 7, .int .i64 0, .int .i64 4] 3 (0, 0))) (h2 : W.heap[z + 2]? = some (.cells #[.int .i64 3, .int .i64 4, .int .i64 2] 3 (0, 0))) (h3 : W.heap[z + 3]? = some (.cells #[.int .i64 1, .int .i64 2, .int .i64 4] 3 (0, 0))) (h4 : W.heap[z + 4]? = some (.cells #[.int .i64 7, .int .i64 4, .int .i64 6] 3 (0, 0))) (h5 : W.heap[z + 5]? = some (.cells #[.int .i64 5, .int .i64 6, .int .i64 4] 3 (0, 0)))
    (h6 : W.heap[z + 6]? = some (.cells #[.slice (some ⟨z, 0, none⟩) 3 3, .slice (some ⟨z + 1, 0, none⟩) 3 3, .slice (some ⟨z + 2, 0, none⟩) 3 3, .slice (some ⟨z + 3, 0, none⟩) 3 3, .slice (some ⟨z + 4, 0, none⟩) 3 3, .slice (some ⟨z + 5, 0, none⟩) 3 3] 33 (0, 0))) : Rows6 W z := by
  refine ⟨fun j hj => ?_, _, h6, fun j hj => ?_⟩
  · have hc : j = 0 ∨ j = 1 ∨ j = 2 ∨ j = 3 ∨ j = 4 ∨ j = 5 := by omega
    rcases hc with rfl | rfl | rfl | rfl | rfl | rfl
    · exact h0
    · exact h1
    · exact h2
    · exact h3
    · exact h4
    · exact h5
  · have hc : j = 0 ∨ j = 1 ∨ j = 2 ∨ j = 3 ∨ j = 4 ∨ j = 5 := by omega
    rcases hc with rfl | rfl | rfl | rfl | rfl | rfl <;> rfl
theorem Rows6.keep {W W' : World} {z : Nat} (h : Rows6 W z) (hk : ∀ j, j < 7 → W'.heap[z + j]? = W.heap[z + j]?) : Rows6 W' z :=
  ⟨fun j hj => (hk j (by omega)).trans (h.1 j hj), h.2.imp fun cs hc => ⟨(hk 6 (by omega)).trans hc.1, hc.2⟩⟩
theorem Rows6.lt {W : World} {z : Nat} (h : Rows6 W z) : z + 6 < W.heap.size := by obtain ⟨cs, h1, _⟩ := h.2; exact rblk_lt h1
theorem Rows6.below {W W' : World} {z : Nat} (h : Rows6 W z) (hb : Below W.heap.size W W') : Rows6 W' z := h.keep fun j hj => hb.block _ (by have := h.lt; omega)
theorem Rows6.put {W : World} {z : Nat} (h : Rows6 W z) {g i : Nat} (hg : g < z) (x : Value) : Rows6 (W.setCell ⟨g, i, none⟩ x) z := h.keep fun j _ => Below.heap_setCell W ⟨g, i, none⟩ x (z + j) (by show z + j ≠ g; omega)
theorem Rows6.off {B s n : Nat} {W : World} {u : Value} {xs : List Value} {z : Nat} (h : Rows6 W z) (ho : W.ownsRow B 43 s u n xs) : ∀ j, j < 7 → u.ownBlock ≠ some (z + j) := fun j hj => by
  by_cases h4 : j = 6
  · subst h4
    obtain ⟨cs, h1, _⟩ := h.2
    exact own_ne (by decide) ho h1
  · exact own_ne (by decide) ho (h.1 j (by omega))
set_option maxHeartbeats 16000000 in
theorem spec_corner (w : World) : Calls Try.prog 10 #[] w (MadeMi w.heap.size coM w) := by
  have HP := Lib.hid (fun (x y : Int) W (h : 0 ≤ x ∧ x ≤ 9) (h' : 0 ≤ y ∧ y ≤ 9) => spec_pointAt x y W (by omega) (by omega))
  unfold MadeP at HP
  go_enter Try.func10, Try.ntmps10
  go_wp2_with fail
  have kb := ba1 w (.cells #[.slice none 0 0, .slice none 0 0] 25)
  have P_r := heap_alloc_new w (.cells #[.slice none 0 0, .slice none 0 0] 25)
  have hh : w.heap.size + 1 ≤ (w.alloc (.cells #[.slice none 0 0, .slice none 0 0] 25)).heap.size := by have := sz1 w (.cells #[.slice none 0 0, .slice none 0 0] 25); omega
  generalize w.alloc (.cells #[.slice none 0 0, .slice none 0 0] 25) = Wd at kb P_r hh ⊢
  have oa : Owns (w.heap.size + 1) Wd.heap.size Wd (lrow []) := Owns.nil _ _ _
  have apa : Aparts (lrow []) := Aparts.nil
  have hB := Nat.le_refl Wd.heap.size
  refine (HP.out 0 0 _ (by decide) (by decide)).mono ?_
  rintro e Wc0 ⟨a0, b0, rfl, hcs, oq, apq, hb⟩
  have hz := hb.size
  obtain ⟨oa', apa'⟩ := acc_call (q := ⟨(rfi 0), (rfi 0), a0, b0⟩) oa apa hB hh hb oq apq
  replace P_r := rblk_below P_r hb
  replace kb := bt kb hb
  replace hh := Nat.le_trans hh hz
  clear oa apa hB hcs oq apq hb hz
  have oa := oa'
  have apa := apa'
  clear oa' apa'
  have hB := Nat.le_refl Wc0.heap.size
  have HF := Lib.hid (And.intro oa (And.intro apa (And.intro hh (And.intro P_r kb))))
  clear oa apa hh P_r kb hB
  go_wp2_with fail
  obtain ⟨oa, apa, hh, P_r, kb⟩ := HF.out
  clear HF
  have hB := Nat.le_refl Wc0.heap.size
  refine (HP.out 1 0 _ (by decide) (by decide)).mono ?_
  rintro e Wc1 ⟨a1, b1, rfl, hcs, oq, apq, hb⟩
  have hz := hb.size
  obtain ⟨oa', apa'⟩ := acc_call (q := ⟨(rfi 1), (rfi 0), a1, b1⟩) oa apa hB hh hb oq apq
  replace P_r := rblk_below P_r hb
  replace kb := bt kb hb
  replace hh := Nat.le_trans hh hz
  clear oa apa hB hcs oq apq hb hz
  have oa := oa'
  have apa := apa'
  clear oa' apa'
  have hB := Nat.le_refl Wc1.heap.size
  have HF := Lib.hid (And.intro oa (And.intro apa (And.intro hh (And.intro P_r kb))))
  clear oa apa hh P_r kb hB
  go_wp2_with fail
  obtain ⟨oa, apa, hh, P_r, kb⟩ := HF.out
  clear HF
  have hB := Nat.le_refl Wc1.heap.size
  refine (HP.out 2 0 _ (by decide) (by decide)).mono ?_
  rintro e Wc2 ⟨a2, b2, rfl, hcs, oq, apq, hb⟩
  have hz := hb.size
  obtain ⟨oa', apa'⟩ := acc_call (q := ⟨(rfi 2), (rfi 0), a2, b2⟩) oa apa hB hh hb oq apq
  replace P_r := rblk_below P_r hb
  replace kb := bt kb hb
  replace hh := Nat.le_trans hh hz
  clear oa apa hB hcs oq apq hb hz
  have oa := oa'
  have apa := apa'
  clear oa' apa'
  have hB := Nat.le_refl Wc2.heap.size
  have HF := Lib.hid (And.intro oa (And.intro apa (And.intro hh (And.intro P_r kb))))
  clear oa apa hh P_r kb hB
  go_wp2_with fail
  obtain ⟨oa, apa, hh, P_r, kb⟩ := HF.out
  clear HF
  have hB := Nat.le_refl Wc2.heap.size
  refine (HP.out 2 1 _ (by decide) (by decide)).mono ?_
  rintro e Wc3 ⟨a3, b3, rfl, hcs, oq, apq, hb⟩
  have hz := hb.size
  obtain ⟨oa', apa'⟩ := acc_call (q := ⟨(rfi 2), (rfi 1), a3, b3⟩) oa apa hB hh hb oq apq
  replace P_r := rblk_below P_r hb
  replace kb := bt kb hb
  replace hh := Nat.le_trans hh hz
  clear oa apa hB hcs oq apq hb hz
  have oa := oa'
  have apa := apa'
  clear oa' apa'
  have hB := Nat.le_refl Wc3.heap.size
  have HF := Lib.hid (And.intro oa (And.intro apa (And.intro hh (And.intro P_r kb))))
  clear oa apa hh P_r kb hB
  go_wp2_with fail
  obtain ⟨oa, apa, hh, P_r, kb⟩ := HF.out
  clear HF
  have hB := Nat.le_refl Wc3.heap.size
  refine (HP.out 1 1 _ (by decide) (by decide)).mono ?_
  rintro e Wc4 ⟨a4, b4, rfl, hcs, oq, apq, hb⟩
  have hz := hb.size
  obtain ⟨oa', apa'⟩ := acc_call (q := ⟨(rfi 1), (rfi 1), a4, b4⟩) oa apa hB hh hb oq apq
  replace P_r := rblk_below P_r hb
  replace kb := bt kb hb
  replace hh := Nat.le_trans hh hz
  clear oa apa hB hcs oq apq hb hz
  have oa := oa'
  have apa := apa'
  clear oa' apa'
  have hB := Nat.le_refl Wc4.heap.size
  have HF := Lib.hid (And.intro oa (And.intro apa (And.intro hh (And.intro P_r kb))))
  clear oa apa hh P_r kb hB
  go_wp2_with fail
  obtain ⟨oa, apa, hh, P_r, kb⟩ := HF.out
  clear HF
  have hB := Nat.le_refl Wc4.heap.size
  refine (HP.out 1 2 _ (by decide) (by decide)).mono ?_
  rintro e Wc5 ⟨a5, b5, rfl, hcs, oq, apq, hb⟩
  have hz := hb.size
  obtain ⟨oa', apa'⟩ := acc_call (q := ⟨(rfi 1), (rfi 2), a5, b5⟩) oa apa hB hh hb oq apq
  replace P_r := rblk_below P_r hb
  replace kb := bt kb hb
  replace hh := Nat.le_trans hh hz
  clear oa apa hB hcs oq apq hb hz
  have oa := oa'
  have apa := apa'
  clear oa' apa'
  have hB := Nat.le_refl Wc5.heap.size
  have HF := Lib.hid (And.intro oa (And.intro apa (And.intro hh (And.intro P_r kb))))
  clear oa apa hh P_r kb hB
  go_wp2_with fail
  obtain ⟨oa, apa, hh, P_r, kb⟩ := HF.out
  clear HF
  have hB := Nat.le_refl Wc5.heap.size
  refine (HP.out 0 2 _ (by decide) (by decide)).mono ?_
  rintro e Wc6 ⟨a6, b6, rfl, hcs, oq, apq, hb⟩
  have hz := hb.size
  obtain ⟨oa', apa'⟩ := acc_call (q := ⟨(rfi 0), (rfi 2), a6, b6⟩) oa apa hB hh hb oq apq
  replace P_r := rblk_below P_r hb
  replace kb := bt kb hb
  replace hh := Nat.le_trans hh hz
  clear oa apa hB hcs oq apq hb hz
  have oa := oa'
  have apa := apa'
  clear oa' apa'
  have hB := Nat.le_refl Wc6.heap.size
  have HF := Lib.hid (And.intro oa (And.intro apa (And.intro hh (And.intro P_r kb))))
  clear oa apa hh P_r kb hB
  go_wp2_with fail
  obtain ⟨oa, apa, hh, P_r, kb⟩ := HF.out
  clear HF
  have hB := Nat.le_refl Wc6.heap.size
  refine (HP.out 0 1 _ (by decide) (by decide)).mono ?_
  rintro e Wc7 ⟨a7, b7, rfl, hcs, oq, apq, hb⟩
  have hz := hb.size
  obtain ⟨oa', apa'⟩ := acc_call (q := ⟨(rfi 0), (rfi 1), a7, b7⟩) oa apa hB hh hb oq apq
  replace P_r := rblk_below P_r hb
  replace kb := bt kb hb
  replace hh := Nat.le_trans hh hz
  clear oa apa hB hcs oq apq hb hz
  have oa := oa'
  have apa := apa'
  clear oa' apa'
  have hB := Nat.le_refl Wc7.heap.size
  have HF := Lib.hid (And.intro oa (And.intro apa (And.intro hh (And.intro P_r kb))))
  clear oa apa hh P_r kb hB
  go_upto_region 2 with fail
  obtain ⟨oa, apa, hh, P_r, kb⟩ := HF.out
  clear HF
  have hB := Nat.le_refl Wc7.heap.size
  obtain ⟨P_p, P_m⟩ := blocks2 Wc7 (.cells #[.bool (rfi 0).p, .slice a0.A (rfi 0).l.length a0.c, .slice a0.D (rfi 0).m.length a0.d, .bool (rfi 0).p, .slice b0.A (rfi 0).l.length b0.c, .slice b0.D (rfi 0).m.length b0.d, .bool (rfi 1).p, .slice a1.A (rfi 1).l.length a1.c, .slice a1.D (rfi 1).m.length a1.d, .bool (rfi 0).p, .slice b1.A (rfi 0).l.length b1.c, .slice b1.D (rfi 0).m.length b1.d, .bool (rfi 2).p, .slice a2.A (rfi 2).l.length a2.c, .slice a2.D (rfi 2).m.length a2.d, .bool (rfi 0).p, .slice b2.A (rfi 0).l.length b2.c, .slice b2.D (rfi 0).m.length b2.d, .bool (rfi 2).p, .slice a3.A (rfi 2).l.length a3.c, .slice a3.D (rfi 2).m.length a3.d, .bool (rfi 1).p, .slice b3.A (rfi 1).l.length b3.c, .slice b3.D (rfi 1).m.length b3.d, .bool (rfi 1).p, .slice a4.A (rfi 1).l.length a4.c, .slice a4.D (rfi 1).m.length a4.d, .bool (rfi 1).p, .slice b4.A (rfi 1).l.length b4.c, .slice b4.D (rfi 1).m.length b4.d, .bool (rfi 1).p, .slice a5.A (rfi 1).l.length a5.c, .slice a5.D (rfi 1).m.length a5.d, .bool (rfi 2).p, .slice b5.A (rfi 2).l.length b5.c, .slice b5.D (rfi 2).m.length b5.d, .bool (rfi 0).p, .slice a6.A (rfi 0).l.length a6.c, .slice a6.D (rfi 0).m.length a6.d, .bool (rfi 2).p, .slice b6.A (rfi 2).l.length b6.c, .slice b6.D (rfi 2).m.length b6.d, .bool (rfi 0).p, .slice a7.A (rfi 0).l.length a7.c, .slice a7.D (rfi 0).m.length a7.d, .bool (rfi 1).p, .slice b7.A (rfi 1).l.length b7.c, .slice b7.D (rfi 1).m.length b7.d] 39) (.cells #[.slice (some ⟨Wc7.heap.size, 0, none⟩) 8 8, .slice none 0 0] 25)
  have hb := ba2 Wc7 (.cells #[.bool (rfi 0).p, .slice a0.A (rfi 0).l.length a0.c, .slice a0.D (rfi 0).m.length a0.d, .bool (rfi 0).p, .slice b0.A (rfi 0).l.length b0.c, .slice b0.D (rfi 0).m.length b0.d, .bool (rfi 1).p, .slice a1.A (rfi 1).l.length a1.c, .slice a1.D (rfi 1).m.length a1.d, .bool (rfi 0).p, .slice b1.A (rfi 0).l.length b1.c, .slice b1.D (rfi 0).m.length b1.d, .bool (rfi 2).p, .slice a2.A (rfi 2).l.length a2.c, .slice a2.D (rfi 2).m.length a2.d, .bool (rfi 0).p, .slice b2.A (rfi 0).l.length b2.c, .slice b2.D (rfi 0).m.length b2.d, .bool (rfi 2).p, .slice a3.A (rfi 2).l.length a3.c, .slice a3.D (rfi 2).m.length a3.d, .bool (rfi 1).p, .slice b3.A (rfi 1).l.length b3.c, .slice b3.D (rfi 1).m.length b3.d, .bool (rfi 1).p, .slice a4.A (rfi 1).l.length a4.c, .slice a4.D (rfi 1).m.length a4.d, .bool (rfi 1).p, .slice b4.A (rfi 1).l.length b4.c, .slice b4.D (rfi 1).m.length b4.d, .bool (rfi 1).p, .slice a5.A (rfi 1).l.length a5.c, .slice a5.D (rfi 1).m.length a5.d, .bool (rfi 2).p, .slice b5.A (rfi 2).l.length b5.c, .slice b5.D (rfi 2).m.length b5.d, .bool (rfi 0).p, .slice a6.A (rfi 0).l.length a6.c, .slice a6.D (rfi 0).m.length a6.d, .bool (rfi 2).p, .slice b6.A (rfi 2).l.length b6.c, .slice b6.D (rfi 2).m.length b6.d, .bool (rfi 0).p, .slice a7.A (rfi 0).l.length a7.c, .slice a7.D (rfi 0).m.length a7.d, .bool (rfi 1).p, .slice b7.A (rfi 1).l.length b7.c, .slice b7.D (rfi 1).m.length b7.d] 39) (.cells #[.slice (some ⟨Wc7.heap.size, 0, none⟩) 8 8, .slice none 0 0] 25)
  have hown0 : (Wc7.alloc (.cells #[.bool (rfi 0).p, .slice a0.A (rfi 0).l.length a0.c, .slice a0.D (rfi 0).m.length a0.d, .bool (rfi 0).p, .slice b0.A (rfi 0).l.length b0.c, .slice b0.D (rfi 0).m.length b0.d, .bool (rfi 1).p, .slice a1.A (rfi 1).l.length a1.c, .slice a1.D (rfi 1).m.length a1.d, .bool (rfi 0).p, .slice b1.A (rfi 0).l.length b1.c, .slice b1.D (rfi 0).m.length b1.d, .bool (rfi 2).p, .slice a2.A (rfi 2).l.length a2.c, .slice a2.D (rfi 2).m.length a2.d, .bool (rfi 0).p, .slice b2.A (rfi 0).l.length b2.c, .slice b2.D (rfi 0).m.length b2.d, .bool (rfi 2).p, .slice a3.A (rfi 2).l.length a3.c, .slice a3.D (rfi 2).m.length a3.d, .bool (rfi 1).p, .slice b3.A (rfi 1).l.length b3.c, .slice b3.D (rfi 1).m.length b3.d, .bool (rfi 1).p, .slice a4.A (rfi 1).l.length a4.c, .slice a4.D (rfi 1).m.length a4.d, .bool (rfi 1).p, .slice b4.A (rfi 1).l.length b4.c, .slice b4.D (rfi 1).m.length b4.d, .bool (rfi 1).p, .slice a5.A (rfi 1).l.length a5.c, .slice a5.D (rfi 1).m.length a5.d, .bool (rfi 2).p, .slice b5.A (rfi 2).l.length b5.c, .slice b5.D (rfi 2).m.length b5.d, .bool (rfi 0).p, .slice a6.A (rfi 0).l.length a6.c, .slice a6.D (rfi 0).m.length a6.d, .bool (rfi 2).p, .slice b6.A (rfi 2).l.length b6.c, .slice b6.D (rfi 2).m.length b6.d, .bool (rfi 0).p, .slice a7.A (rfi 0).l.length a7.c, .slice a7.D (rfi 0).m.length a7.d, .bool (rfi 1).p, .slice b7.A (rfi 1).l.length b7.c, .slice b7.D (rfi 1).m.length b7.d] 39)).ownsRow (w.heap.size + 1) 39 6 (.slice (some ⟨Wc7.heap.size, 0, none⟩) 8 8) 8 (flat (((((((([] ++ [(⟨(rfi 0), (rfi 0), a0, b0⟩ : PV)]) ++ [(⟨(rfi 1), (rfi 0), a1, b1⟩ : PV)]) ++ [(⟨(rfi 2), (rfi 0), a2, b2⟩ : PV)]) ++ [(⟨(rfi 2), (rfi 1), a3, b3⟩ : PV)]) ++ [(⟨(rfi 1), (rfi 1), a4, b4⟩ : PV)]) ++ [(⟨(rfi 1), (rfi 2), a5, b5⟩ : PV)]) ++ [(⟨(rfi 0), (rfi 2), a6, b6⟩ : PV)]) ++ [(⟨(rfi 0), (rfi 1), a7, b7⟩ : PV)])) := World.ownsRow_lit Wc7 #[.bool (rfi 0).p, .slice a0.A (rfi 0).l.length a0.c, .slice a0.D (rfi 0).m.length a0.d, .bool (rfi 0).p, .slice b0.A (rfi 0).l.length b0.c, .slice b0.D (rfi 0).m.length b0.d, .bool (rfi 1).p, .slice a1.A (rfi 1).l.length a1.c, .slice a1.D (rfi 1).m.length a1.d, .bool (rfi 0).p, .slice b1.A (rfi 0).l.length b1.c, .slice b1.D (rfi 0).m.length b1.d, .bool (rfi 2).p, .slice a2.A (rfi 2).l.length a2.c, .slice a2.D (rfi 2).m.length a2.d, .bool (rfi 0).p, .slice b2.A (rfi 0).l.length b2.c, .slice b2.D (rfi 0).m.length b2.d, .bool (rfi 2).p, .slice a3.A (rfi 2).l.length a3.c, .slice a3.D (rfi 2).m.length a3.d, .bool (rfi 1).p, .slice b3.A (rfi 1).l.length b3.c, .slice b3.D (rfi 1).m.length b3.d, .bool (rfi 1).p, .slice a4.A (rfi 1).l.length a4.c, .slice a4.D (rfi 1).m.length a4.d, .bool (rfi 1).p, .slice b4.A (rfi 1).l.length b4.c, .slice b4.D (rfi 1).m.length b4.d, .bool (rfi 1).p, .slice a5.A (rfi 1).l.length a5.c, .slice a5.D (rfi 1).m.length a5.d, .bool (rfi 2).p, .slice b5.A (rfi 2).l.length b5.c, .slice b5.D (rfi 2).m.length b5.d, .bool (rfi 0).p, .slice a6.A (rfi 0).l.length a6.c, .slice a6.D (rfi 0).m.length a6.d, .bool (rfi 2).p, .slice b6.A (rfi 2).l.length b6.c, .slice b6.D (rfi 2).m.length b6.d, .bool (rfi 0).p, .slice a7.A (rfi 0).l.length a7.c, .slice a7.D (rfi 0).m.length a7.d, .bool (rfi 1).p, .slice b7.A (rfi 1).l.length b7.c, .slice b7.D (rfi 1).m.length b7.d] 8 hh (by decide) rfl
  have hown := own_below hown0 (ba1 _ (.cells #[.slice (some ⟨Wc7.heap.size, 0, none⟩) 8 8, .slice none 0 0] 25))
  have og : OffG (Wc7.heap.size + 1) (lrow (((((((([] ++ [(⟨(rfi 0), (rfi 0), a0, b0⟩ : PV)]) ++ [(⟨(rfi 1), (rfi 0), a1, b1⟩ : PV)]) ++ [(⟨(rfi 2), (rfi 0), a2, b2⟩ : PV)]) ++ [(⟨(rfi 2), (rfi 1), a3, b3⟩ : PV)]) ++ [(⟨(rfi 1), (rfi 1), a4, b4⟩ : PV)]) ++ [(⟨(rfi 1), (rfi 2), a5, b5⟩ : PV)]) ++ [(⟨(rfi 0), (rfi 2), a6, b6⟩ : PV)]) ++ [(⟨(rfi 0), (rfi 1), a7, b7⟩ : PV)])) := offG_range oa (.inr (by omega))
  replace oa := oa.below hb
  replace P_r := rblk_below P_r hb
  replace kb := bt kb hb
  have hz := rblk_lt P_m
  clear hb P_p hown0
  generalize (Wc7.alloc (.cells #[.bool (rfi 0).p, .slice a0.A (rfi 0).l.length a0.c, .slice a0.D (rfi 0).m.length a0.d, .bool (rfi 0).p, .slice b0.A (rfi 0).l.length b0.c, .slice b0.D (rfi 0).m.length b0.d, .bool (rfi 1).p, .slice a1.A (rfi 1).l.length a1.c, .slice a1.D (rfi 1).m.length a1.d, .bool (rfi 0).p, .slice b1.A (rfi 0).l.length b1.c, .slice b1.D (rfi 0).m.length b1.d, .bool (rfi 2).p, .slice a2.A (rfi 2).l.length a2.c, .slice a2.D (rfi 2).m.length a2.d, .bool (rfi 0).p, .slice b2.A (rfi 0).l.length b2.c, .slice b2.D (rfi 0).m.length b2.d, .bool (rfi 2).p, .slice a3.A (rfi 2).l.length a3.c, .slice a3.D (rfi 2).m.length a3.d, .bool (rfi 1).p, .slice b3.A (rfi 1).l.length b3.c, .slice b3.D (rfi 1).m.length b3.d, .bool (rfi 1).p, .slice a4.A (rfi 1).l.length a4.c, .slice a4.D (rfi 1).m.length a4.d, .bool (rfi 1).p, .slice b4.A (rfi 1).l.length b4.c, .slice b4.D (rfi 1).m.length b4.d, .bool (rfi 1).p, .slice a5.A (rfi 1).l.length a5.c, .slice a5.D (rfi 1).m.length a5.d, .bool (rfi 2).p, .slice b5.A (rfi 2).l.length b5.c, .slice b5.D (rfi 2).m.length b5.d, .bool (rfi 0).p, .slice a6.A (rfi 0).l.length a6.c, .slice a6.D (rfi 0).m.length a6.d, .bool (rfi 2).p, .slice b6.A (rfi 2).l.length b6.c, .slice b6.D (rfi 2).m.length b6.d, .bool (rfi 0).p, .slice a7.A (rfi 0).l.length a7.c, .slice a7.D (rfi 0).m.length a7.d, .bool (rfi 1).p, .slice b7.A (rfi 1).l.length b7.c, .slice b7.D (rfi 1).m.length b7.d] 39)).alloc (.cells #[.slice (some ⟨Wc7.heap.size, 0, none⟩) 8 8, .slice none 0 0] 25) = W2 at *
  have G : Gm (w.heap.size + 1) W2.heap.size W2 (((((((([] ++ [(⟨(rfi 0), (rfi 0), a0, b0⟩ : PV)]) ++ [(⟨(rfi 1), (rfi 0), a1, b1⟩ : PV)]) ++ [(⟨(rfi 2), (rfi 0), a2, b2⟩ : PV)]) ++ [(⟨(rfi 2), (rfi 1), a3, b3⟩ : PV)]) ++ [(⟨(rfi 1), (rfi 1), a4, b4⟩ : PV)]) ++ [(⟨(rfi 1), (rfi 2), a5, b5⟩ : PV)]) ++ [(⟨(rfi 0), (rfi 2), a6, b6⟩ : PV)]) ++ [(⟨(rfi 0), (rfi 1), a7, b7⟩ : PV)]) [] (.slice (some ⟨Wc7.heap.size, 0, none⟩) 8 8) (.slice none 0 0) := ⟨hown, ⟨rfl, .inl ⟨rfl, rfl⟩⟩, oa.wide (Nat.le_refl _) (by omega), apa, (fun g h => by cases h), (fun g h => (hown.lt g h).2), (fun g h => by cases h), Nat.le_refl _⟩
  have hgm : w.heap.size < Wc7.heap.size + 1 := by omega
  have hd : dat (((((((([] ++ [(⟨(rfi 0), (rfi 0), a0, b0⟩ : PV)]) ++ [(⟨(rfi 1), (rfi 0), a1, b1⟩ : PV)]) ++ [(⟨(rfi 2), (rfi 0), a2, b2⟩ : PV)]) ++ [(⟨(rfi 2), (rfi 1), a3, b3⟩ : PV)]) ++ [(⟨(rfi 1), (rfi 1), a4, b4⟩ : PV)]) ++ [(⟨(rfi 1), (rfi 2), a5, b5⟩ : PV)]) ++ [(⟨(rfi 0), (rfi 2), a6, b6⟩ : PV)]) ++ [(⟨(rfi 0), (rfi 1), a7, b7⟩ : PV)]) = coP 8 := rfl
  have hl : (((((((([] ++ [(⟨(rfi 0), (rfi 0), a0, b0⟩ : PV)]) ++ [(⟨(rfi 1), (rfi 0), a1, b1⟩ : PV)]) ++ [(⟨(rfi 2), (rfi 0), a2, b2⟩ : PV)]) ++ [(⟨(rfi 2), (rfi 1), a3, b3⟩ : PV)]) ++ [(⟨(rfi 1), (rfi 1), a4, b4⟩ : PV)]) ++ [(⟨(rfi 1), (rfi 2), a5, b5⟩ : PV)]) ++ [(⟨(rfi 0), (rfi 2), a6, b6⟩ : PV)]) ++ [(⟨(rfi 0), (rfi 1), a7, b7⟩ : PV)]).length = 8 := rfl
  generalize hM : (((((((([] ++ [(⟨(rfi 0), (rfi 0), a0, b0⟩ : PV)]) ++ [(⟨(rfi 1), (rfi 0), a1, b1⟩ : PV)]) ++ [(⟨(rfi 2), (rfi 0), a2, b2⟩ : PV)]) ++ [(⟨(rfi 2), (rfi 1), a3, b3⟩ : PV)]) ++ [(⟨(rfi 1), (rfi 1), a4, b4⟩ : PV)]) ++ [(⟨(rfi 1), (rfi 2), a5, b5⟩ : PV)]) ++ [(⟨(rfi 0), (rfi 2), a6, b6⟩ : PV)]) ++ [(⟨(rfi 0), (rfi 1), a7, b7⟩ : PV)]) = M at *
  generalize Wc7.heap.size + 1 = gm at *
  generalize (some ⟨Wc7.heap.size, 0, none⟩ : Option Addr) = A at *
  clear hM hown oa apa hB hh
  go_wp2_with fail
  obtain ⟨b0, b1, b2, b3, b4, b5, b6⟩ := blocks7 W2 (.cells #[.int .i64 1, .int .i64 4, .int .i64 0] 3) (.cells #[.int .i64 7, .int .i64 0, .int .i64 4] 3) (.cells #[.int .i64 3, .int .i64 4, .int .i64 2] 3) (.cells #[.int .i64 1, .int .i64 2, .int .i64 4] 3) (.cells #[.int .i64 7, .int .i64 4, .int .i64 6] 3) (.cells #[.int .i64 5, .int .i64 6, .int .i64 4] 3) (.cells #[.slice (some ⟨W2.heap.size, 0, none⟩) 3 3, .slice (some ⟨W2.heap.size + 1, 0, none⟩) 3 3, .slice (some ⟨W2.heap.size + 1 + 1, 0, none⟩) 3 3, .slice (some ⟨W2.heap.size + 1 + 1 + 1, 0, none⟩) 3 3, .slice (some ⟨W2.heap.size + 1 + 1 + 1 + 1, 0, none⟩) 3 3, .slice (some ⟨W2.heap.size + 1 + 1 + 1 + 1 + 1, 0, none⟩) 3 3] 33)
  have hb := ba7 W2 (.cells #[.int .i64 1, .int .i64 4, .int .i64 0] 3) (.cells #[.int .i64 7, .int .i64 0, .int .i64 4] 3) (.cells #[.int .i64 3, .int .i64 4, .int .i64 2] 3) (.cells #[.int .i64 1, .int .i64 2, .int .i64 4] 3) (.cells #[.int .i64 7, .int .i64 4, .int .i64 6] 3) (.cells #[.int .i64 5, .int .i64 6, .int .i64 4] 3) (.cells #[.slice (some ⟨W2.heap.size, 0, none⟩) 3 3, .slice (some ⟨W2.heap.size + 1, 0, none⟩) 3 3, .slice (some ⟨W2.heap.size + 1 + 1, 0, none⟩) 3 3, .slice (some ⟨W2.heap.size + 1 + 1 + 1, 0, none⟩) 3 3, .slice (some ⟨W2.heap.size + 1 + 1 + 1 + 1, 0, none⟩) 3 3, .slice (some ⟨W2.heap.size + 1 + 1 + 1 + 1 + 1, 0, none⟩) 3 3] 33)
  replace P_m := rblk_below P_m hb
  replace P_r := rblk_below P_r hb
  replace G := G.below hb
  replace kb := bt kb hb
  clear hb
  generalize ((((((W2.alloc (.cells #[.int .i64 1, .int .i64 4, .int .i64 0] 3)).alloc (.cells #[.int .i64 7, .int .i64 0, .int .i64 4] 3)).alloc (.cells #[.int .i64 3, .int .i64 4, .int .i64 2] 3)).alloc (.cells #[.int .i64 1, .int .i64 2, .int .i64 4] 3)).alloc (.cells #[.int .i64 7, .int .i64 4, .int .i64 6] 3)).alloc (.cells #[.int .i64 5, .int .i64 6, .int .i64 4] 3)).alloc (.cells #[.slice (some ⟨W2.heap.size, 0, none⟩) 3 3, .slice (some ⟨W2.heap.size + 1, 0, none⟩) 3 3, .slice (some ⟨W2.heap.size + 1 + 1, 0, none⟩) 3 3, .slice (some ⟨W2.heap.size + 1 + 1 + 1, 0, none⟩) 3 3, .slice (some ⟨W2.heap.size + 1 + 1 + 1 + 1, 0, none⟩) 3 3, .slice (some ⟨W2.heap.size + 1 + 1 + 1 + 1 + 1, 0, none⟩) 3 3] 33) = W5 at *
  have R : Rows6 W5 W2.heap.size := rows6_mk b0 b1 b2 b3 b4 b5 b6
  clear b0 b1 b2 b3 b4 b5 b6
  have hB : w.heap.size + 1 ≤ W2.heap.size := by omega
  generalize W2.heap.size = z at *
  go_loopw [22] (fun kv w' => ∃ (j : Nat) (T : List TV) (D : Option Addr) (d hi : Nat), j ≤ 6 ∧ kv = .int .i64 (j : Int) ∧ T = coT j ∧ Rows6 w' z ∧ Gm (w.heap.size + 1) hi w' M T (.slice A 8 8) (.slice D T.length d) ∧ w.heap.size + 1 ≤ hi ∧ w'.heap[gm]? = some (.cells #[.slice A 8 8, .slice D T.length d] 25 (0, 0)) ∧ w'.heap[w.heap.size]? = some (.cells #[.slice none 0 0, .slice none 0 0] 25 (0, 0)) ∧ Below w.heap.size w w') (fun kv _ => 6 - (intOf kv).toNat)
  case atStart => exact ⟨0, [], none, 0, _, by omega, rfl, rfl, R, G, hB, P_m, P_r, kb⟩
  case round =>
    clear R G hB P_m P_r kb
    obtain ⟨j, T, D, d, hi, hj, rfl, hT, R, G, hB, P_m, P_r, kb⟩ := hrel
    have hlT : T.length = j := by rw [hT, coT_len]
    have HD := Lib.hid hT
    clear hT
    by_cases hj1 : j < 6
    · have hj2 : (j : Int) < 6 := by omega
      have hl3 : T.length ≤ 6 := by omega
      clear hlT
      obtain ⟨cs, h4, hc⟩ := R.2
      have c4 : wr.cell? ⟨z + 6, j, none⟩ = some (.slice (some ⟨z + j, 0, none⟩) 3 3) := (rblk_cell h4 j).trans (hc j hj1)
      clear h4 hc
      go_wp2_with fail
      clear c4
      have hd0 : Below wr.heap.size wr wr.drew := (Below.refl _ _).drew
      replace P_m := rblk_below P_m hd0
      replace P_r := rblk_below P_r hd0
      replace G := G.below hd0
      replace kb := bt kb hd0
      replace R := R.below hd0
      clear hd0
      refine wp_region_held_drew (S := fun w' => w'.heap[z + j]? = some (.cells #[.int .i64 (ca j), .int .i64 (cb j), .int .i64 (cc j)] 3 (0, 0))) (by kernel_rfl) (R.1 j hj1) (fun hHeld => ?_)
      generalize wr.drew = Wd2 at *
      refine tk (i := 0) (v := ?vg1_1) rfl (by kernel_rfl) (fun _ _ _ h => h) (Or.inl ⟨by rfl, ?hg1_1⟩) hHeld ?_
      case hg1_1 => (intro w hSw; (try dsimp only at hSw); go_simp; (try with_reducible rfl))
      try simp only [ps]
      refine tk (i := 2) (v := ?vg1_2) rfl (by kernel_rfl) (fun _ _ _ h => h) (Or.inl ⟨by rfl, ?hg1_2⟩) hHeld ?_
      case hg1_2 => (intro w hSw; (try dsimp only at hSw); go_simp; (try with_reducible rfl))
      try simp only [ps]
      refine tk (i := 3) (v := ?vg1_3) rfl (by kernel_rfl) (fun _ _ _ h => h) (Or.inl ⟨by rfl, ?hg1_3⟩) hHeld ?_
      case hg1_3 => (intro w hSw; (try dsimp only at hSw); go_simp; (try with_reducible rfl))
      try simp only [ps]
      refine tk (i := 4) (v := ?vg1_4) rfl (by kernel_rfl) (fun _ _ _ h => h) (Or.inl ⟨by rfl, ?hg1_4⟩) hHeld ?_
      case hg1_4 => (intro w hSw; (try dsimp only at hSw); have s0 := rblk_cell hSw 0; go_simp; (try with_reducible rfl))
      try simp only [ps]
      refine tk (i := 5) (v := ?vg1_5) rfl (by kernel_rfl) (fun _ _ _ h => h) (Or.inl ⟨by rfl, ?hg1_5⟩) hHeld ?_
      case hg1_5 => (intro w hSw; (try dsimp only at hSw); go_simp; (try with_reducible rfl))
      try simp only [ps]
      refine tk (i := 6) (v := ?vg1_6) rfl (by kernel_rfl) (fun _ _ _ h => h) (Or.inl ⟨by rfl, ?hg1_6⟩) hHeld ?_
      case hg1_6 => (intro w hSw; (try dsimp only at hSw); go_simp; (try with_reducible rfl))
      try simp only [ps]
      refine tk (i := 7) (v := ?vg1_7) rfl (by kernel_rfl) (fun _ _ _ h => h) (Or.inl ⟨by rfl, ?hg1_7⟩) hHeld ?_
      case hg1_7 => (intro w hSw; (try dsimp only at hSw); have s1 := rblk_cell hSw 1; go_simp; (try with_reducible rfl))
      try simp only [ps]
      refine tk (i := 8) (v := ?vg1_8) rfl (by kernel_rfl) (fun _ _ _ h => h) (Or.inl ⟨by rfl, ?hg1_8⟩) hHeld ?_
      case hg1_8 => (intro w hSw; (try dsimp only at hSw); go_simp; (try with_reducible rfl))
      try simp only [ps]
      refine tk (i := 9) (v := ?vg1_9) rfl (by kernel_rfl) (fun _ _ _ h => h) (Or.inl ⟨by rfl, ?hg1_9⟩) hHeld ?_
      case hg1_9 => (intro w hSw; (try dsimp only at hSw); go_simp; (try with_reducible rfl))
      try simp only [ps]
      refine tk (i := 10) (v := ?vg1_10) rfl (by kernel_rfl) (fun _ _ _ h => h) (Or.inl ⟨by rfl, ?hg1_10⟩) hHeld ?_
      case hg1_10 => (intro w hSw; (try dsimp only at hSw); have s2 := rblk_cell hSw 2; go_simp; (try with_reducible rfl))
      try simp only [ps]
      refine tk (i := 11) (v := ?vg1_11) rfl (by kernel_rfl) (fun _ _ _ h => h) (Or.inl ⟨by rfl, ?hg1_11⟩) hHeld ?_
      case hg1_11 => (intro w hSw; (try dsimp only at hSw); go_simp; (try with_reducible rfl))
      try simp only [ps]
      refine wpAnyH_ready (rs := [1, 12]) (by kernel_rfl) (by simp) ?_
      refine rc1 rfl (fun K hK => ?_) (rc1 rfl (fun K hK => ?_) AllReadyH.nil)
      · skip
        have t0 := rblk_cell P_m 1
        go_simp
        clear t0
        refine hK.out _ _ (R.1 j hj1) (fun hH => ?_)
        replace hHeld := hH
        clear hK K hH
        try simp only [ps]
        refine rd1 (i := 12) (by kernel_rfl) rfl (fun K hK => ?_)
        go_simp
        refine hK.out _ _ ((R.below (ba1 _ _)).1 j hj1) (fun hH => ?_)
        replace hHeld := hH
        clear hK K hH
        try simp only [ps]
        refine rd1 (i := 13) (by kernel_rfl) rfl (fun K hK => ?_)
        have hz0 := G.hh
        have hsz := sz1 Wd2 (.cells #[.int .i64 (ca j), .int .i64 (cb j), .int .i64 (cc j), .int .i64 0, .int .i64 0] 43)
        have GA := G.below (ba1 Wd2 (.cells #[.int .i64 (ca j), .int .i64 (cb j), .int .i64 (cc j), .int .i64 0, .int .i64 0] 43))
        have RA := R.below (ba1 Wd2 (.cells #[.int .i64 (ca j), .int .i64 (cb j), .int .i64 (cc j), .int .i64 0, .int .i64 0] 43))
        have CA := cell_tri Wd2 ⟨ca j, cb j, cc j, 0, 0⟩
        have P_m' := rblk_below P_m (ba1 Wd2 (.cells #[.int .i64 (ca j), .int .i64 (cb j), .int .i64 (cc j), .int .i64 0, .int .i64 0] 43))
        have P_r' := rblk_below P_r (ba1 Wd2 (.cells #[.int .i64 (ca j), .int .i64 (cb j), .int .i64 (cc j), .int .i64 0, .int .i64 0] 43))
        have kb' := bt kb (ba1 Wd2 (.cells #[.int .i64 (ca j), .int .i64 (cb j), .int .i64 (cc j), .int .i64 0, .int .i64 0] 43))
        refine wanted_op (by rfl) ?_
        refine grow_tri_op (.tmp 27) (.tmp 38) rfl GA [⟨ca j, cb j, cc j, 0, 0⟩] ⟨Wd2.heap.size, 0, none⟩ 1 rfl rfl CA (by simp only [List.length_cons, List.length_nil]; omega) (by omega) ?_
        intro D2 dd w5 G5 k5 _ kp
        have R5 := RA.keep (fun i hi => kp _ (RA.off GA.ot i hi) (by have := RA.lt; omega))
        have hz5 := k5.size
        replace P_m := (kp _ (own_ne (by decide) GA.ot P_m') (rblk_lt P_m')).trans P_m'
        replace P_r := (k5.block _ (by omega)).trans P_r'
        replace kb := kb'.trans (k5.mono (by omega))
        clear G GA R RA CA P_m' P_r' kb' k5 kp
        refine hK.out _ _ (R5.1 j hj1) (fun hH => ?_)
        replace hHeld := hH
        clear hK K hH
        try simp only [ps]
        refine tk (i := 14) (v := ?vg1_12) rfl (by kernel_rfl) (fun _ _ _ h => h) (Or.inl ⟨by rfl, ?hg1_12⟩) hHeld ?_
        case hg1_12 => (intro w hSw; (try dsimp only at hSw); go_simp; (try with_reducible rfl))
        try simp only [ps]
        refine rd1 (i := 15) (by kernel_rfl) rfl (fun K hK => ?_)
        have t0 := rblk_cell P_m 1
        have q0 := rblk_free P_m 1
        go_simp
        clear t0 q0
        replace P_r := rblk_other P_r 1 (.slice D2 (T.length + 1) dd) (show gm ≠ w.heap.size by omega)
        replace R5 := R5.put (g := gm) (i := 1) (by omega) (.slice D2 (T.length + 1) dd)
        replace G5 := G5.putx (i := 1) P_m (by decide) (by decide) og (.slice D2 (T.length + 1) dd)
        replace P_m := rblk_set P_m 1 (.slice D2 (T.length + 1) dd)
        replace kb := below_put (o := 1) kb (show w.heap.size ≤ gm by omega) (.slice D2 (T.length + 1) dd)
        have hz3 : (w5.setCell ⟨gm, 1, none⟩ (.slice D2 (T.length + 1) dd)).heap.size = w5.heap.size := by simp [World.setCell]
        rw [← hz3] at G5 hz5
        clear hz3
        generalize w5.setCell ⟨gm, 1, none⟩ (.slice D2 (T.length + 1) dd) = w6 at *
        refine hK.out _ _ (R5.1 j hj1) (fun hH => ?_)
        replace hHeld := hH
        clear hK K hH
        try simp only [ps]
        refine wpAnyH_done (by kernel_rfl) ?_ _
        rw [show (#[Value.slice A 8 8, Value.slice D T.length d].setIfInBounds 1 (.slice D2 (T.length + 1) dd)) = #[.slice A 8 8, .slice D2 (T.length + 1) dd] from rfl] at P_m
        have HZ : Hid (w.heap.size + 1 ≤ w6.heap.size) := Lib.hid (by omega)
        have HX := Lib.hid (And.intro R5 (And.intro G5 (And.intro P_m (And.intro P_r kb))))
        clear R5 G5 P_m P_r kb hHeld hz0 hsz hz5
        go_wp2
        go_roundw
        case rel => exact ⟨j + 1, T ++ [⟨ca j, cb j, cc j, 0, 0⟩], D2, dd, _, by omega, by go_num, by rw [HD.out, coT_succ], HX.out.1, by rw [List.length_append]; exact HX.out.2.1, HZ.out, by rw [List.length_append]; exact HX.out.2.2.1, HX.out.2.2.2.1, HX.out.2.2.2.2⟩
        case measure => simp [intOf]; omega
      · skip
        go_simp
        refine hK.out _ _ ((R.below (ba1 _ _)).1 j hj1) (fun hH => ?_)
        replace hHeld := hH
        clear hK K hH
        try simp only [ps]
        refine rd1 (i := 1) (by kernel_rfl) rfl (fun K hK => ?_)
        have t0 := rblk_cell (rblk_below P_m (ba1 _ (.cells #[.int .i64 (ca j), .int .i64 (cb j), .int .i64 (cc j), .int .i64 0, .int .i64 0] 43))) 1
        go_simp
        clear t0
        refine hK.out _ _ ((R.below (ba1 _ _)).1 j hj1) (fun hH => ?_)
        replace hHeld := hH
        clear hK K hH
        try simp only [ps]
        refine rd1 (i := 13) (by kernel_rfl) rfl (fun K hK => ?_)
        have hz0 := G.hh
        have hsz := sz1 Wd2 (.cells #[.int .i64 (ca j), .int .i64 (cb j), .int .i64 (cc j), .int .i64 0, .int .i64 0] 43)
        have GA := G.below (ba1 Wd2 (.cells #[.int .i64 (ca j), .int .i64 (cb j), .int .i64 (cc j), .int .i64 0, .int .i64 0] 43))
        have RA := R.below (ba1 Wd2 (.cells #[.int .i64 (ca j), .int .i64 (cb j), .int .i64 (cc j), .int .i64 0, .int .i64 0] 43))
        have CA := cell_tri Wd2 ⟨ca j, cb j, cc j, 0, 0⟩
        have P_m' := rblk_below P_m (ba1 Wd2 (.cells #[.int .i64 (ca j), .int .i64 (cb j), .int .i64 (cc j), .int .i64 0, .int .i64 0] 43))
        have P_r' := rblk_below P_r (ba1 Wd2 (.cells #[.int .i64 (ca j), .int .i64 (cb j), .int .i64 (cc j), .int .i64 0, .int .i64 0] 43))
        have kb' := bt kb (ba1 Wd2 (.cells #[.int .i64 (ca j), .int .i64 (cb j), .int .i64 (cc j), .int .i64 0, .int .i64 0] 43))
        refine wanted_op (by rfl) ?_
        refine grow_tri_op (.tmp 27) (.tmp 38) rfl GA [⟨ca j, cb j, cc j, 0, 0⟩] ⟨Wd2.heap.size, 0, none⟩ 1 rfl rfl CA (by simp only [List.length_cons, List.length_nil]; omega) (by omega) ?_
        intro D2 dd w5 G5 k5 _ kp
        have R5 := RA.keep (fun i hi => kp _ (RA.off GA.ot i hi) (by have := RA.lt; omega))
        have hz5 := k5.size
        replace P_m := (kp _ (own_ne (by decide) GA.ot P_m') (rblk_lt P_m')).trans P_m'
        replace P_r := (k5.block _ (by omega)).trans P_r'
        replace kb := kb'.trans (k5.mono (by omega))
        clear G GA R RA CA P_m' P_r' kb' k5 kp
        refine hK.out _ _ (R5.1 j hj1) (fun hH => ?_)
        replace hHeld := hH
        clear hK K hH
        try simp only [ps]
        refine tk (i := 14) (v := ?vg1_13) rfl (by kernel_rfl) (fun _ _ _ h => h) (Or.inl ⟨by rfl, ?hg1_13⟩) hHeld ?_
        case hg1_13 => (intro w hSw; (try dsimp only at hSw); go_simp; (try with_reducible rfl))
        try simp only [ps]
        refine rd1 (i := 15) (by kernel_rfl) rfl (fun K hK => ?_)
        have t0 := rblk_cell P_m 1
        have q0 := rblk_free P_m 1
        go_simp
        clear t0 q0
        replace P_r := rblk_other P_r 1 (.slice D2 (T.length + 1) dd) (show gm ≠ w.heap.size by omega)
        replace R5 := R5.put (g := gm) (i := 1) (by omega) (.slice D2 (T.length + 1) dd)
        replace G5 := G5.putx (i := 1) P_m (by decide) (by decide) og (.slice D2 (T.length + 1) dd)
        replace P_m := rblk_set P_m 1 (.slice D2 (T.length + 1) dd)
        replace kb := below_put (o := 1) kb (show w.heap.size ≤ gm by omega) (.slice D2 (T.length + 1) dd)
        have hz3 : (w5.setCell ⟨gm, 1, none⟩ (.slice D2 (T.length + 1) dd)).heap.size = w5.heap.size := by simp [World.setCell]
        rw [← hz3] at G5 hz5
        clear hz3
        generalize w5.setCell ⟨gm, 1, none⟩ (.slice D2 (T.length + 1) dd) = w6 at *
        refine hK.out _ _ (R5.1 j hj1) (fun hH => ?_)
        replace hHeld := hH
        clear hK K hH
        try simp only [ps]
        refine wpAnyH_done (by kernel_rfl) ?_ _
        rw [show (#[Value.slice A 8 8, Value.slice D T.length d].setIfInBounds 1 (.slice D2 (T.length + 1) dd)) = #[.slice A 8 8, .slice D2 (T.length + 1) dd] from rfl] at P_m
        have HZ : Hid (w.heap.size + 1 ≤ w6.heap.size) := Lib.hid (by omega)
        have HX := Lib.hid (And.intro R5 (And.intro G5 (And.intro P_m (And.intro P_r kb))))
        clear R5 G5 P_m P_r kb hHeld hz0 hsz hz5
        go_wp2
        go_roundw
        case rel => exact ⟨j + 1, T ++ [⟨ca j, cb j, cc j, 0, 0⟩], D2, dd, _, by omega, by go_num, by rw [HD.out, coT_succ], HX.out.1, by rw [List.length_append]; exact HX.out.2.1, HZ.out, by rw [List.length_append]; exact HX.out.2.2.1, HX.out.2.2.2.1, HX.out.2.2.2.2⟩
        case measure => simp [intOf]; omega
    · rw [show (j : Int) = 6 by omega]
      obtain rfl : j = 6 := by omega
      have r0 := rblk_cell P_r 0
      have r1 := rblk_cell P_r 1
      have q0 := rblk_free P_r 0
      have q1 := rblk_free P_r 1
      rw [← hl] at G
      have HX := Lib.hid (((G.put (g := w.heap.size) (i := 0) (by omega) (.slice A 8 8)).put (g := w.heap.size) (i := 1) (by omega) (.slice D T.length d)).made (B0 := w.heap.size) (m := coM) (by omega) (by unfold coM; rw [datM_of, hd, HD.out]) (w := w) (below_put (o := 1) (below_put (o := 0) kb (Nat.le_refl _) (.slice A 8 8)) (Nat.le_refl _) (.slice D T.length d)))
      rw [hl] at HX
      have PZ := rblk_set (rblk_set P_r 0 (.slice A 8 8)) 1 (.slice D T.length d)
      have z0 := rblk_cell PZ 0
      have z1 := rblk_cell PZ 1
      have t0 := rblk_cell P_m 0
      have t1 := rblk_cell P_m 1
      clear hlT hl hd G
      go_wp2
      exact bodyPost_ret (v := .agg #[.slice A 8 8, .slice D T.length d]) (by simp [results, Try.results10, go_sem, z0, z1]) rfl HX.out
end Go.Proofs.Ytjcbaiphkchehaa
