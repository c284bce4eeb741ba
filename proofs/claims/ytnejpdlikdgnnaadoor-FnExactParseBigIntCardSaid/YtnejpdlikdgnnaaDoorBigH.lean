/-
  What the harness' own functions of the exact laws do over big integers: 'toBigInt', 'szBigInt', 'eqBigInt', 'markBigInt', 'heldBigInt'.
-/
import Derived.Test.YtnejpdlikdgnnaaDoorZ
import Derived.Test.YtnejpdlikdgnnaaDoorAtL
namespace Go.Proofs.YtnejpdlikdgnnaaDoor
open Go.ChangeShapes Go.WideShapes Go.ChangeAt Go.RowKit
open Go.ChangeMaps (open_string shut_string)
set_option linter.unusedVariables false
set_option linter.unusedSimpArgs false
set_option maxRecDepth 4000

theorem bcell {W w1 : World} (hb : Below W.heap.size W w1) : (∀ b o, b < W.heap.size → w1.cell? ⟨b, o, none⟩ = W.cell? ⟨b, o, none⟩) ∧ (∀ b o, b < W.heap.size → w1.frozen? ⟨b, o, none⟩ = W.frozen? ⟨b, o, none⟩) :=
  ⟨fun b o h => hb.cell (p := ⟨b, o, none⟩) h, fun b o h => hb.frozen (p := ⟨b, o, none⟩) h⟩

theorem ba1 (w : World) (o1 : Obj) : Below w.heap.size w (w.alloc o1) := (Below.refl _ _).alloc (Nat.le_refl _) _
theorem ba2 (w : World) (o1 o2 : Obj) : Below w.heap.size w ((w.alloc o1).alloc o2) := (ba1 w o1).alloc (by simp) _
theorem ba3 (w : World) (o1 o2 o3 : Obj) : Below w.heap.size w (((w.alloc o1).alloc o2).alloc o3) := (ba2 w o1 o2).alloc (by simp; omega) _
theorem sz1 (w : World) (o1 : Obj) : (w.alloc o1).heap.size = w.heap.size + 1 := by simp
theorem sz2 (w : World) (o1 o2 : Obj) : ((w.alloc o1).alloc o2).heap.size = w.heap.size + 2 := by simp
theorem sz3 (w : World) (o1 o2 o3 : Obj) : (((w.alloc o1).alloc o2).alloc o3).heap.size = w.heap.size + 3 := by simp
/-- A store below a row leaves the row. -/
theorem OwnS.put {B b o : Nat} {w : World} {A : Option Addr} {l : List Value} (h : OwnS B w A l) (hb : b < B) (v : Value) : OwnS B (w.setCell ⟨b, o, none⟩ v) A l := by
  rcases h with h | ⟨g, ha, hB, hs, hc, hf⟩
  · exact .inl h
  · refine .inr ⟨g, ha, hB, by simpa [World.setCell] using hs, fun j hj => ?_, fun j hj => ?_⟩
    · rw [World.cell?_setCell_other w ⟨b, o, none⟩ ⟨g, j, none⟩ v (by intro q; injection q with q1 _; omega)]
      exact hc j hj
    · rw [World.frozen?_setCell]; exact hf j hj
theorem grown_pre {w w0 w1 : World} {row : Option Nat} (h : Below w.heap.size w w0) (g : w0.grownBy w1 row) : w.grownBy w1 row :=
  ⟨g.os.trans h.os, g.tape.trans h.tape, g.output.trans h.output, Nat.le_trans h.size g.size, fun i hi hne => (g.block i (Nat.lt_of_lt_of_le hi h.size) hne).trans (h.block i hi)⟩
theorem below_put {B b o : Nat} {w w1 : World} (h : Below B w w1) (hb : B ≤ b) (v : Value) : Below B w (w1.setCell ⟨b, o, none⟩ v) := h.setCell hb _

set_option maxHeartbeats 800000 in
theorem toBig_any (p : Bool) (l : List Int) (A : Option Addr) (n c : Nat) (w : World) (hl : l.length = n) (hn : n ≤ 1048576) (hA : RdS w A (vi l)) :
    Calls Tryd.prog 16 #[.agg #[.bool p, .slice A n c]] w fun e w' => ∃ g, e = .returned (.agg #[.bool p, .slice (some ⟨g, 0, none⟩) n n]) ∧ OwnS w.heap.size w' (some ⟨g, 0, none⟩) (vi l) ∧ Below w.heap.size w w' := by
  have HT := Lib.hid (fun W h => toIntS_any l A n c W hl hn h)
  clear hl
  go_enter Tryd.func16, Tryd.ntmps16
  go_wp2_with fail
  refine (HT.out _ (hA.below (ba3 _ _ _ _))).mono ?_
  rintro e w1 ⟨g, rfl, own, hb⟩
  obtain ⟨hc, hf⟩ := bcell hb
  have hz : w.heap.size + 2 < w1.heap.size := by have := hb.size; rw [sz3] at this; omega
  have hb' := (ba3 _ _ _ _).trans (hb.mono (by rw [sz3]; omega))
  rw [sz3] at own
  go_wp2
  exact bodyPost_ret (v := .agg #[.bool p, .slice (some ⟨g, 0, none⟩) n n]) (by simp [results, Tryd.results16, go_sem, hc, hz]) rfl ⟨g, rfl, (((own.put (by omega) _).put (by omega) _).put (by omega) _).more (by omega), below_put (below_put (below_put hb' (by omega) _) (by omega) _) (by omega) _⟩

set_option maxHeartbeats 800000 in
theorem eqBig_any (p q : Bool) (l m : List Int) (A D : Option Addr) (n n' c d : Nat) (w : World) (hl : l.length = n) (hm : m.length = n') (hn : n ≤ 4611686018427387904) (hn' : n' ≤ 4611686018427387904)
    (hA : RdS w A (vi l)) (hD : RdS w D (vi m)) :
    Calls Tryd.prog 18 #[.agg #[.bool p, .slice A n c], .agg #[.bool q, .slice D n' d]] w fun e w' => e = .returned (.bool (decide (p = q) && decide (l = m))) ∧ Below w.heap.size w w' := by
  have HT := Lib.hid (fun W h h' => eqIntS_any l m A D n n' c d W hl hm hn hn' h h')
  clear hl hm
  by_cases hpq : p = q
  · subst hpq
    have hq : (p != p) = false := by simp
    rw [decide_eq_true rfl, Bool.true_and]
    generalize decide (l = m) = r at HT
    go_enter Tryd.func18, Tryd.ntmps18
    go_wp2_with fail
    refine (HT.out _ (hA.below (ba2 _ _ _)) (hD.below (ba2 _ _ _))).mono ?_
    rintro e w1 ⟨rfl, hb⟩
    have hb' := (ba2 _ _ _).trans (hb.mono (by rw [sz2]; omega))
    cases r
    · go_wp2
      go_ret
      exact ⟨rfl, hb'⟩
    · go_wp2
      go_ret
      exact ⟨rfl, hb'⟩
  · have hq : (p == q) = false := by simpa using hpq
    rw [decide_eq_false hpq, Bool.false_and]
    go_enter Tryd.func18, Tryd.ntmps18
    go_wp2
    go_ret
    exact ⟨rfl, ba2 _ _ _⟩

set_option maxHeartbeats 800000 in
theorem markBig_any (B : Nat) (p : Bool) (l : List Value) (A : Option Addr) (n c : Nat) (k : Int) (w : World) (hl : l.length = n) (hk : 0 < k) (hn : k + n ≤ 4611686018427387904) (hA : OwnS B w A l) :
    Calls Tryd.prog 21 #[.agg #[.bool p, .slice A n c], .int .i64 k] w fun e w' => e = .returned (.int .i64 (k + (n : Int))) ∧ OwnS B w' A (vi (marks k n)) ∧ w.grownBy w' (rowOf n A) := by
  have HT := Lib.hid (fun W h => markIntS_any B l A n c k W hl hk hn h)
  have hkn : 0 ≤ k + (n : Int) := by omega
  clear hl
  go_enter Tryd.func21, Tryd.ntmps21
  go_wp2_with fail
  refine (HT.out _ (hA.below (ba1 _ _))).mono ?_
  rintro e w1 ⟨rfl, own, hg⟩
  go_wp2
  go_ret
  exact ⟨rfl, own, grown_pre (ba1 _ _) hg⟩

set_option maxHeartbeats 800000 in
theorem heldBig_any (p : Bool) (A : Option Addr) (n c : Nat) (k : Int) (w : World) (hk : 0 < k) (hn : k + n ≤ 4611686018427387904) (hA : RdS w A (vi (marks k n))) :
    Calls Tryd.prog 22 #[.agg #[.bool p, .slice A n c], .int .i64 k] w fun e w' => e = .returned (.int .i64 (k + (n : Int))) ∧ Below w.heap.size w w' := by
  have HT := Lib.hid (fun W h => heldIntS_any A n c k W hk hn h)
  have hkn : 0 ≤ k + (n : Int) := by omega
  have hkn' : ¬ k + (n : Int) < 0 := by omega
  go_enter Tryd.func22, Tryd.ntmps22
  go_wp2_with fail
  refine (HT.out _ (hA.below (ba1 _ _))).mono ?_
  rintro e w1 ⟨rfl, hb⟩
  have hb' := (ba1 _ _).trans (hb.mono (by rw [sz1]; omega))
  go_wp2
  go_ret
  exact ⟨rfl, hb'⟩
end Go.Proofs.YtnejpdlikdgnnaaDoor
