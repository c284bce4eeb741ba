/-
  Big integers as a sign and a list of limbs: plain mathematics.
-/
import Derived.Test.YtennekieiioilaaGreatPkA
import Derived.Deep.RegionHeld3
import Derived.Deep.DeepCutAuto
import Derived.Lib.SmallJoins
import Derived.Maps.AppendAt
namespace Go.Proofs.YtennekieiioilaaGreat
open Go.ChangeShapes Go.WideShapes Go.ChangeAt Go.RowKit
open Go.ChangeMaps (open_string shut_string)
set_option linter.unusedVariables false
set_option linter.unusedSimpArgs false

/-- The sign and the limbs of an integer. -/
def zn (z : Int) : Bool := decide (z < 0)
def zm (z : Int) : List Int := nd z.natAbs
/-- The answer of the operations: 0 if it would be too long. -/
def czi (z : Int) : Int := if ln z.natAbs ≤ 60 then z else 0
/-- What 'BigIntOk' asks. -/
def okB (p : Bool) (l : List Int) : Bool := ok l && !(p && decide (l = []))
/-- The value. -/
def valB (p : Bool) (l : List Int) : Int := if p then -(val l : Int) else (val l : Int)
theorem nd_nil_iff {v : Nat} : nd v = [] ↔ v = 0 := by
  constructor
  · intro h
    have h1 : (nd v).length = 0 := by rw [h]; rfl
    rw [nd_length] at h1
    exact ln_eq_zero.1 h1
  · rintro rfl; exact nd_zero
theorem zn_zero : zn 0 = false := rfl
theorem zm_zero : zm 0 = [] := nd_zero
theorem zm_length (z : Int) : (zm z).length = ln z.natAbs := nd_length _
theorem okB_z {p : Bool} {l : List Int} (h : okB p l = true) : ∃ z : Int, p = zn z ∧ l = zm z ∧ ln z.natAbs ≤ 60 := by
  unfold okB at h
  rw [Bool.and_eq_true] at h
  obtain ⟨h1, h2⟩ := h
  obtain ⟨v, rfl, hv⟩ := ok_nd h1
  cases p
  · exact ⟨(v : Int), by unfold zn; simp, by unfold zm; simp, by simpa using hv⟩
  · have h0 : v ≠ 0 := by
      rintro rfl
      simp [nd_zero] at h2
    refine ⟨-(v : Int), ?_, by unfold zm; simp, by simpa using hv⟩
    unfold zn
    exact (decide_eq_true (by omega)).symm
theorem okB_mk {z : Int} (h : ln z.natAbs ≤ 60) : okB (zn z) (zm z) = true := by
  unfold okB zn zm
  rw [nd_ok h]
  simp [nd_nil_iff]
  omega
theorem valB_z (z : Int) : valB (zn z) (zm z) = z := by
  unfold valB zn zm
  rw [val_nd]
  by_cases h : z < 0
  · rw [decide_eq_true h]; simp; omega
  · rw [decide_eq_false h]; simp; omega
theorem okB_no {p : Bool} {l : List Int} (h : ok l = false) : okB p l = false := by unfold okB; rw [h]; rfl
theorem okB_neg : okB true [] = false := rfl
/-- One argument, two arguments: 0 where one of them is not valid. -/
def unZ (F : Int → Int) (p : Bool) (l : List Int) : Int := if okB p l then F (valB p l) else 0
def binZ (F : Int → Int → Int) (p : Bool) (l : List Int) (q : Bool) (m : List Int) : Int := if okB p l && okB q m then F (valB p l) (valB q m) else 0
theorem unZ_no {F : Int → Int} {p : Bool} {l : List Int} (h : okB p l = false) : unZ F p l = 0 := by unfold unZ; rw [h]; rfl
theorem unZ_yes {F : Int → Int} {z : Int} (h : ln z.natAbs ≤ 60) : unZ F (zn z) (zm z) = F z := by unfold unZ; rw [okB_mk h, valB_z]; rfl
theorem binZ_no {F : Int → Int → Int} {p q : Bool} {l m : List Int} (h : (okB p l && okB q m) = false) : binZ F p l q m = 0 := by unfold binZ; rw [h]; rfl
theorem binZ_yes {F : Int → Int → Int} {z y : Int} (h : ln z.natAbs ≤ 60) (h' : ln y.natAbs ≤ 60) : binZ F (zn z) (zm z) (zn y) (zm y) = F z y := by unfold binZ; rw [okB_mk h, okB_mk h', valB_z, valB_z]; rfl
theorem czi_in {z : Int} (h : ln z.natAbs ≤ 60) : czi z = z := if_pos h
theorem czi_out {z : Int} (h : 60 < ln z.natAbs) : czi z = 0 := if_neg (by omega)
theorem czi_len (z : Int) : ln (czi z).natAbs ≤ 60 := by
  unfold czi
  split
  · assumption
  · simp [ln_zero]
/-- What a sign and limbs that were cut make. -/
theorem cap60_yes' {T : Nat} (h : ln T ≤ 60) : cap60 T = nd T := if_pos h
theorem cap60_no' {T : Nat} (h : 60 < ln T) : cap60 T = [] := if_neg (by omega)
theorem cut_zn (p : Bool) (a : Nat) : (p && decide (cap60 a ≠ [])) = zn (czi (if p then -(a : Int) else (a : Int))) ∧ cap60 a = zm (czi (if p then -(a : Int) else (a : Int))) := by
  have hab : (if p then -(a : Int) else (a : Int)).natAbs = a := by cases p <;> simp
  by_cases h : ln a ≤ 60
  · rw [czi_in (by rw [hab]; exact h), cap60_yes' h]
    unfold zm zn
    rw [hab]
    refine ⟨?_, rfl⟩
    cases p
    · simp
    · have h1 : decide (nd a ≠ []) = decide (-(a : Int) < 0) := decide_eq_decide.2 (by rw [Ne, nd_nil_iff]; omega)
      simpa using h1
  · rw [czi_out (by rw [hab]; omega), cap60_no' (by omega), zm_zero, zn_zero]
    simp
end Go.Proofs.YtennekieiioilaaGreat

namespace Go.Proofs.YtennekieiioilaaGreat
open Go.ChangeShapes Go.WideShapes Go.ChangeAt Go.RowKit
open Go.ChangeMaps (open_string shut_string)
set_option linter.unusedVariables false
set_option linter.unusedSimpArgs false
set_option maxRecDepth 4000

theorem bcell {W w1 : World} (hb : Below W.heap.size W w1) : (∀ b o, b < W.heap.size → w1.cell? ⟨b, o, none⟩ = W.cell? ⟨b, o, none⟩) ∧ (∀ b o, b < W.heap.size → w1.frozen? ⟨b, o, none⟩ = W.frozen? ⟨b, o, none⟩) :=
  ⟨fun b o h => hb.cell (p := ⟨b, o, none⟩) h, fun b o h => hb.frozen (p := ⟨b, o, none⟩) h⟩

theorem ba1 (w : World) (o1 : Obj) : Below w.heap.size w (w.alloc o1) := (Below.refl _ _).alloc (Nat.le_refl _) _
theorem ba2 (w : World) (o1 o2 : Obj) : Below w.heap.size w ((w.alloc o1).alloc o2) := (ba1 w o1).alloc (by simp) _
theorem ba3 (w : World) (o1 o2 o3 : Obj) : Below w.heap.size w (((w.alloc o1).alloc o2).alloc o3) := (ba2 w o1 o2).alloc (by simp; omega) _
theorem sz1 (w : World) (o1 : Obj) : (w.alloc o1).heap.size = w.heap.size + 1 := by simp
theorem sz2 (w : World) (o1 o2 : Obj) : ((w.alloc o1).alloc o2).heap.size = w.heap.size + 2 := by simp
theorem sz3 (w : World) (o1 o2 o3 : Obj) : (((w.alloc o1).alloc o2).alloc o3).heap.size = w.heap.size + 3 := by simp
/-- A store below a row leaves the row. -/
theorem OwnS.put {B b o : Nat} {w : World} {A : Option Addr} {l : List Value} (h : OwnS B w A l) (hb : b < B) (v : Value) : OwnS B (w.setCell ⟨b, o, none⟩ v) A l := by
  rcases h with h | ⟨g, ha, hB, hs, hc, hf⟩
  · exact .inl h
  · refine .inr ⟨g, ha, hB, by simpa [World.setCell] using hs, fun j hj => ?_, fun j hj => ?_⟩
    · rw [World.cell?_setCell_other w ⟨b, o, none⟩ ⟨g, j, none⟩ v (by intro q; injection q with q1 _; omega)]
      exact hc j hj
    · rw [World.frozen?_setCell]; exact hf j hj
theorem grown_pre {w w0 w1 : World} {row : Option Nat} (h : Below w.heap.size w w0) (g : w0.grownBy w1 row) : w.grownBy w1 row :=
  ⟨g.os.trans h.os, g.tape.trans h.tape, g.output.trans h.output, Nat.le_trans h.size g.size, fun i hi hne => (g.block i (Nat.lt_of_lt_of_le hi h.size) hne).trans (h.block i hi)⟩
theorem below_put {B b o : Nat} {w w1 : World} (h : Below B w w1) (hb : B ≤ b) (v : Value) : Below B w (w1.setCell ⟨b, o, none⟩ v) := h.setCell hb _

set_option maxHeartbeats 800000 in
theorem toBig_any (p : Bool) (l : List Int) (A : Option Addr) (n c : Nat) (w : World) (hl : l.length = n) (hn : n ≤ 1048576) (hA : RdS w A (vi l)) :
    Calls Tryz.prog 66 #[.agg #[.bool p, .slice A n c]] w fun e w' => ∃ g, e = .returned (.agg #[.bool p, .slice (some ⟨g, 0, none⟩) n n]) ∧ OwnS w.heap.size w' (some ⟨g, 0, none⟩) (vi l) ∧ Below w.heap.size w w' := by
  have HT := Lib.hid (fun W h => toIntS_any l A n c W hl hn h)
  clear hl
  go_enter Tryz.func66, Tryz.ntmps66
  go_wp2_with fail
  refine (HT.out _ (hA.below (ba3 _ _ _ _))).mono ?_
  rintro e w1 ⟨g, rfl, own, hb⟩
  obtain ⟨hc, hf⟩ := bcell hb
  have hz : w.heap.size + 2 < w1.heap.size := by have := hb.size; rw [sz3] at this; omega
  have hb' := (ba3 _ _ _ _).trans (hb.mono (by rw [sz3]; omega))
  rw [sz3] at own
  go_wp2
  exact bodyPost_ret (v := .agg #[.bool p, .slice (some ⟨g, 0, none⟩) n n]) (by simp [results, Tryz.results66, go_sem, hc, hz]) rfl ⟨g, rfl, (((own.put (by omega) _).put (by omega) _).put (by omega) _).more (by omega), below_put (below_put (below_put hb' (by omega) _) (by omega) _) (by omega) _⟩

set_option maxHeartbeats 800000 in
theorem eqBig_any (p q : Bool) (l m : List Int) (A D : Option Addr) (n n' c d : Nat) (w : World) (hl : l.length = n) (hm : m.length = n') (hn : n ≤ 4611686018427387904) (hn' : n' ≤ 4611686018427387904)
    (hA : RdS w A (vi l)) (hD : RdS w D (vi m)) :
    Calls Tryz.prog 32 #[.agg #[.bool p, .slice A n c], .agg #[.bool q, .slice D n' d]] w fun e w' => e = .returned (.bool (decide (p = q) && decide (l = m))) ∧ Below w.heap.size w w' := by
  have HT := Lib.hid (fun W h h' => eqIntS_any l m A D n n' c d W hl hm hn hn' h h')
  clear hl hm
  by_cases hpq : p = q
  · subst hpq
    have hq : (p != p) = false := by simp
    rw [decide_eq_true rfl, Bool.true_and]
    generalize decide (l = m) = r at HT
    go_enter Tryz.func32, Tryz.ntmps32
    go_wp2_with fail
    refine (HT.out _ (hA.below (ba2 _ _ _)) (hD.below (ba2 _ _ _))).mono ?_
    rintro e w1 ⟨rfl, hb⟩
    have hb' := (ba2 _ _ _).trans (hb.mono (by rw [sz2]; omega))
    cases r
    · go_wp2
      go_ret
      exact ⟨rfl, hb'⟩
    · go_wp2
      go_ret
      exact ⟨rfl, hb'⟩
  · have hq : (p == q) = false := by simpa using hpq
    rw [decide_eq_false hpq, Bool.false_and]
    go_enter Tryz.func32, Tryz.ntmps32
    go_wp2
    go_ret
    exact ⟨rfl, ba2 _ _ _⟩

set_option maxHeartbeats 800000 in
theorem markBig_any (B : Nat) (p : Bool) (l : List Value) (A : Option Addr) (n c : Nat) (k : Int) (w : World) (hl : l.length = n) (hk : 0 < k) (hn : k + n ≤ 4611686018427387904) (hA : OwnS B w A l) :
    Calls Tryz.prog 36 #[.agg #[.bool p, .slice A n c], .int .i64 k] w fun e w' => e = .returned (.int .i64 (k + (n : Int))) ∧ OwnS B w' A (vi (marks k n)) ∧ w.grownBy w' (rowOf n A) := by
  have HT := Lib.hid (fun W h => markIntS_any B l A n c k W hl hk hn h)
  have hkn : 0 ≤ k + (n : Int) := by omega
  clear hl
  go_enter Tryz.func36, Tryz.ntmps36
  go_wp2_with fail
  refine (HT.out _ (hA.below (ba1 _ _))).mono ?_
  rintro e w1 ⟨rfl, own, hg⟩
  go_wp2
  go_ret
  exact ⟨rfl, own, grown_pre (ba1 _ _) hg⟩

set_option maxHeartbeats 800000 in
theorem heldBig_any (p : Bool) (A : Option Addr) (n c : Nat) (k : Int) (w : World) (hk : 0 < k) (hn : k + n ≤ 4611686018427387904) (hA : RdS w A (vi (marks k n))) :
    Calls Tryz.prog 38 #[.agg #[.bool p, .slice A n c], .int .i64 k] w fun e w' => e = .returned (.int .i64 (k + (n : Int))) ∧ Below w.heap.size w w' := by
  have HT := Lib.hid (fun W h => heldIntS_any A n c k W hk hn h)
  have hkn : 0 ≤ k + (n : Int) := by omega
  have hkn' : ¬ k + (n : Int) < 0 := by omega
  go_enter Tryz.func38, Tryz.ntmps38
  go_wp2_with fail
  refine (HT.out _ (hA.below (ba1 _ _))).mono ?_
  rintro e w1 ⟨rfl, hb⟩
  have hb' := (ba1 _ _).trans (hb.mono (by rw [sz1]; omega))
  go_wp2
  go_ret
  exact ⟨rfl, hb'⟩
end Go.Proofs.YtennekieiioilaaGreat

namespace Go.Proofs.YtennekieiioilaaGreat
open Go.ChangeShapes Go.WideShapes Go.ChangeAt Go.RowKit
open Go.ChangeMaps (open_string shut_string)
set_option linter.unusedVariables false
set_option linter.unusedSimpArgs false
set_option maxRecDepth 4000

/-- Block g holds the values vs. -/
def Cells (w : World) (g : Nat) (vs : List Value) : Prop := ∀ j v, vs[j]? = some v → w.cell? ⟨g, j, none⟩ = some v
/-- The variables, each a block and what it holds. -/
def Fr (w : World) (L : List (Nat × List Value)) : Prop := ∀ x, x ∈ L → Cells w x.1 x.2
theorem Cells.below {W W' : World} {g : Nat} {vs : List Value} (h : Cells W g vs) (hb : Below W.heap.size W W') : Cells W' g vs := fun j v hj => by
  have h1 := h j v hj
  rw [hb.cell (p := ⟨g, j, none⟩) (World.block_lt_of_cell? W _ h1)]; exact h1
theorem Cells.grown {W W' : World} {g : Nat} {vs : List Value} {row : Option Nat} (h : Cells W g vs) (hg : W.grownBy W' row) (hne : ∀ k, row = some k → k ≠ g) : Cells W' g vs := fun j v hj => by
  have h1 := h j v hj
  have hl := World.block_lt_of_cell? W _ h1
  have hk : W'.heap[g]? = W.heap[g]? := hg.block g hl (fun e => hne g e.symm rfl)
  rw [World.cell?_of_block (w := W) (a := ⟨g, j, none⟩) hk]; exact h1
theorem Fr.nil (w : World) : Fr w [] := fun _ h => by cases h
theorem Fr.below {W W' : World} {L : List (Nat × List Value)} (h : Fr W L) (hb : Below W.heap.size W W') : Fr W' L := fun x hx => (h x hx).below hb
theorem Fr.grown {W W' : World} {L : List (Nat × List Value)} {row : Option Nat} (h : Fr W L) (hg : W.grownBy W' row) (hne : ∀ k, row = some k → ∀ x, x ∈ L → k ≠ x.1) : Fr W' L := fun x hx => (h x hx).grown hg (fun k hk => hne k hk x hx)
theorem Fr.cons {W : World} {L : List (Nat × List Value)} {g : Nat} {vs : List Value} (h1 : Cells W g vs) (h : Fr W L) : Fr W ((g, vs) :: L) := fun x hx => by
  rcases List.mem_cons.1 hx with e | e
  · subst e; exact h1
  · exact h x e
theorem cells_new (w : World) (T : TypeId) (vs : List Value) : Cells (w.alloc (.cells vs.toArray T)) w.heap.size vs := fun j v hj => by
  have h := cell_of_row _ _ j _ _ (0, 0) (heap_alloc_new w (.cells vs.toArray T))
  rw [h]
  simpa using hj
/-- A new variable. -/
theorem Fr.alloc {w : World} {L : List (Nat × List Value)} (h : Fr w L) (T : TypeId) (vs : List Value) : Fr (w.alloc (.cells vs.toArray T)) ((w.heap.size, vs) :: L) :=
  Fr.cons (cells_new w T vs) (h.below (ba1 w _))
theorem Fr.at0 {w : World} {L : List (Nat × List Value)} {g : Nat} {vs : List Value} (h : Fr w ((g, vs) :: L)) : Cells w g vs := h (g, vs) (by simp)
theorem Fr.tail {w : World} {L : List (Nat × List Value)} {x : Nat × List Value} (h : Fr w (x :: L)) : Fr w L := fun y hy => h y (by simp [hy])
theorem Fr.get {w : World} {L : List (Nat × List Value)} (h : Fr w L) (i j : Nat) {g : Nat} {vs : List Value} {v : Value} (hi : L[i]? = some (g, vs)) (hj : vs[j]? = some v) : w.cell? ⟨g, j, none⟩ = some v :=
  h (g, vs) (List.mem_of_getElem? hi) j v hj

/-- Two variables of two cells that a region reads. -/
theorem heldF {b1 o1 b2 o2 b3 o3 b4 o4 : Nat} {v1 v2 v3 v4 : Value} {W W' w : World} (h1 : W.cell? ⟨b1, o1, none⟩ = some v1) (h2 : W.cell? ⟨b2, o2, none⟩ = some v2) (h3 : W.cell? ⟨b3, o3, none⟩ = some v3) (h4 : W.cell? ⟨b4, o4, none⟩ = some v4) (hw : Below w.heap.size w W) (hb : Below W.heap.size W W') :
    W'.cell? ⟨b1, o1, none⟩ = some v1 ∧ W'.cell? ⟨b2, o2, none⟩ = some v2 ∧ W'.cell? ⟨b3, o3, none⟩ = some v3 ∧ W'.cell? ⟨b4, o4, none⟩ = some v4 ∧ Below w.heap.size w W' :=
  ⟨by rw [hb.cell (p := ⟨b1, o1, none⟩) (World.block_lt_of_cell? W _ h1)]; exact h1, by rw [hb.cell (p := ⟨b2, o2, none⟩) (World.block_lt_of_cell? W _ h2)]; exact h2, by rw [hb.cell (p := ⟨b3, o3, none⟩) (World.block_lt_of_cell? W _ h3)]; exact h3, by rw [hb.cell (p := ⟨b4, o4, none⟩) (World.block_lt_of_cell? W _ h4)]; exact h4, bt hw hb⟩
/-- Two variables of two cells and a row that a region reads. -/
theorem keptE {B b1 o1 b2 o2 b3 o3 b4 o4 : Nat} {v1 v2 v3 v4 : Value} {W W' w : World} {A : Option Addr} {l : List Value} (h1 : W.cell? ⟨b1, o1, none⟩ = some v1) (h2 : W.cell? ⟨b2, o2, none⟩ = some v2) (h3 : W.cell? ⟨b3, o3, none⟩ = some v3) (h4 : W.cell? ⟨b4, o4, none⟩ = some v4) (ho : OwnS B W A l) (hw : Below w.heap.size w W) (hb : Below W.heap.size W W') :
    W'.cell? ⟨b1, o1, none⟩ = some v1 ∧ W'.cell? ⟨b2, o2, none⟩ = some v2 ∧ W'.cell? ⟨b3, o3, none⟩ = some v3 ∧ W'.cell? ⟨b4, o4, none⟩ = some v4 ∧ OwnS B W' A l ∧ Below w.heap.size w W' :=
  ⟨by rw [hb.cell (p := ⟨b1, o1, none⟩) (World.block_lt_of_cell? W _ h1)]; exact h1, by rw [hb.cell (p := ⟨b2, o2, none⟩) (World.block_lt_of_cell? W _ h2)]; exact h2, by rw [hb.cell (p := ⟨b3, o3, none⟩) (World.block_lt_of_cell? W _ h3)]; exact h3, by rw [hb.cell (p := ⟨b4, o4, none⟩) (World.block_lt_of_cell? W _ h4)]; exact h4, ho.below hb, bt hw hb⟩
/-- What a drawn statement leaves that lays a struct of a sign and a slice into a new variable. -/
def CutB (W0 : World) (s : Bool) (L : List Int) (v : Value) (wx : World) : Prop :=
  ∃ gv A c, v = .pointer (some ⟨gv, 0, none⟩) ∧ W0.heap.size ≤ gv ∧ gv < wx.heap.size ∧ Cells wx gv [.bool s, .slice A L.length c] ∧ OwnS W0.heap.size wx A (vi L) ∧ Below W0.heap.size W0 wx
theorem cells_put2 {W : World} {g : Nat} {u u' x y : Value} (h1 : W.cell? ⟨g, 0, none⟩ = some x) (h2 : W.cell? ⟨g, 1, none⟩ = some y) : Cells ((W.setCell ⟨g, 0, none⟩ u).setCell ⟨g, 1, none⟩ u') g [u, u'] := fun j v hj => by
  rcases j with _ | _ | j
  · obtain rfl : u = v := by simpa using hj
    rw [World.cell?_setCell_other _ ⟨g, 1, none⟩ ⟨g, 0, none⟩ u' (by intro q; injection q with _ q2; cases q2)]
    exact World.cell?_setCell_same W ⟨g, 0, none⟩ u h1
  · obtain rfl : u' = v := by simpa using hj
    have h3 : (W.setCell ⟨g, 0, none⟩ u).cell? ⟨g, 1, none⟩ = some y := by
      rw [World.cell?_setCell_other _ ⟨g, 0, none⟩ ⟨g, 1, none⟩ u (by intro q; injection q with _ q2; cases q2)]
      exact h2
    exact World.cell?_setCell_same _ ⟨g, 1, none⟩ u' h3
  · simp at hj
/-- Where a row lies. -/
def InR (n : Nat) (A : Option Addr) (lo hi : Nat) : Prop := ∀ g, rowOf n A = some g → lo ≤ g ∧ g < hi
theorem OwnS.inR {B : Nat} {W : World} {A : Option Addr} {l : List Value} {n : Nat} (h : OwnS B W A l) (hn : l.length = n) : InR n A B W.heap.size := fun g hg => by
  refine ⟨h.row g (by rw [hn]; exact hg), ?_⟩
  rcases h with h | ⟨g', ha, hB, hs, _⟩
  · subst h; subst hn; simp [rowOf] at hg
  · subst ha
    unfold rowOf at hg
    split at hg
    · cases hg
    · simp at hg; omega
theorem OwnS.apartR {B n k lo hi lo' hi' : Nat} {w w' : World} {A A' : Option Addr} {l : List Value} (h : OwnS B w A l) (hk : l.length = k) (hr : InR k A lo hi) (hr' : InR n A' lo' hi') (hg : w.grownBy w' (rowOf n A')) (hd : hi ≤ lo' ∨ hi' ≤ lo) : OwnS B w' A l := by
  by_cases h0 : l.length = 0
  · exact .inl (List.eq_nil_of_length_eq_zero h0)
  · obtain ⟨g, ha, hB, hs, hc, hf⟩ := h.block (by omega)
    have hrg : rowOf k A = some g := by unfold rowOf; rw [if_neg (by omega), ha]; rfl
    have h1 := hr g hrg
    have hkk : w'.heap[g]? = w.heap[g]? := hg.block g hs (fun e => by have h2 := hr' g e.symm; omega)
    refine .inr ⟨g, ha, hB, Nat.lt_of_lt_of_le hs hg.size, fun j hj => ?_, fun j hj => ?_⟩
    · rw [World.cell?_of_block (w := w) (a := ⟨g, j, none⟩) hkk]; exact hc j hj
    · rw [World.frozen?_of_block (w := w) (a := ⟨g, j, none⟩) hkk]; exact hf j hj
theorem Fr.grownR {W W' : World} {L : List (Nat × List Value)} {n lo hi : Nat} {A : Option Addr} (h : Fr W L) (hr : InR n A lo hi) (hg : W.grownBy W' (rowOf n A)) (hne : ∀ x, x ∈ L → x.1 < lo ∨ hi ≤ x.1) : Fr W' L :=
  h.grown hg (fun k hk x hx => by have h1 := hr k hk; have h2 := hne x hx; omega)
theorem below_grownR {w W W' : World} {n lo hi : Nat} {A : Option Addr} (h : Below w.heap.size w W) (hr : InR n A lo hi) (hg : W.grownBy W' (rowOf n A)) (hlo : w.heap.size ≤ lo) : Below w.heap.size w W' :=
  h.trans (below_of_grown hg h.size (fun k hk => by have h1 := hr k hk; omega))

set_option maxHeartbeats 400000 in
/-- The room that the harness leaves for its arguments. -/
theorem szInt_yes (A : Option Addr) (n c : Nat) (left : Int) (w : World) (h0 : 0 ≤ left) (h1 : left ≤ 1048576) (hn : (n : Int) ≤ left) :
    Calls Tryz.prog 63 #[.slice A n c, .int .i64 left] w fun e w' => e = .returned (.int .i64 (left - (n : Int))) ∧ w = w' := by
  have h3 : ¬ left - (n : Int) < 0 := by omega
  go_enter Tryz.func63, Tryz.ntmps63
  go_wp2
  go_ret
  exact ⟨rfl, rfl⟩
set_option maxHeartbeats 400000 in
theorem szInt_no (A : Option Addr) (n c : Nat) (left : Int) (w : World) (h0 : 0 ≤ left) (h1 : left ≤ 1048576) (hm : n ≤ 9223372036854775807) (hn : ¬ (n : Int) ≤ left) :
    Calls Tryz.prog 63 #[.slice A n c, .int .i64 left] w fun e w' => e = .returned (.int .i64 (-1)) ∧ w = w' := by
  have h3 : left - (n : Int) < 0 := by omega
  go_enter Tryz.func63, Tryz.ntmps63
  go_wp2
  go_ret
  exact ⟨rfl, rfl⟩
set_option maxHeartbeats 400000 in
theorem szBig_yes (p : Bool) (A : Option Addr) (n c : Nat) (left : Int) (w : World) (h0 : 0 ≤ left) (h1 : left ≤ 1048576) (hn : (n : Int) ≤ left) :
    Calls Tryz.prog 62 #[.agg #[.bool p, .slice A n c], .int .i64 left] w fun e w' => e = .returned (.int .i64 (left - (n : Int))) ∧ Below w.heap.size w w' := by
  have h3 : ¬ left - (n : Int) < 0 := by omega
  go_enter Tryz.func62, Tryz.ntmps62
  go_wp2_with fail
  refine (szInt_yes A n c left _ h0 h1 hn).mono ?_
  rintro e w1 ⟨rfl, rfl⟩
  go_wp2
  go_ret
  exact ⟨rfl, ba1 _ _⟩
set_option maxHeartbeats 400000 in
theorem szBig_no (p : Bool) (A : Option Addr) (n c : Nat) (left : Int) (w : World) (h0 : 0 ≤ left) (h1 : left ≤ 1048576) (hm : n ≤ 9223372036854775807) (hn : ¬ (n : Int) ≤ left) :
    Calls Tryz.prog 62 #[.agg #[.bool p, .slice A n c], .int .i64 left] w fun e w' => e = .returned (.int .i64 (-1)) ∧ Below w.heap.size w w' := by
  have H := Lib.hid (fun W => szInt_no A n c left W h0 h1 hm hn)
  clear hn
  go_enter Tryz.func62, Tryz.ntmps62
  go_wp2_with fail
  refine (H.out _).mono ?_
  rintro e w1 ⟨rfl, rfl⟩
  go_wp2
  go_ret
  exact ⟨rfl, ba1 _ _⟩
end Go.Proofs.YtennekieiioilaaGreat

namespace Go.Proofs.YtennekieiioilaaGreat
open Go.ChangeShapes Go.WideShapes Go.ChangeAt Go.RowKit
open Go.ChangeMaps (open_string shut_string)
set_option linter.unusedVariables false
set_option linter.unusedSimpArgs false
set_option maxRecDepth 4000

/-- A struct of a sign and a slice of the call's own that reads as L. -/
def MadeB (B : Nat) (p : Bool) (L : List Int) (w : World) (e : Ending) (w' : World) : Prop :=
  ∃ A c, e = .returned (.agg #[.bool p, .slice A L.length c]) ∧ L.length ≤ c ∧ OwnS B w' A (vi L) ∧ Below w.heap.size w w'
theorem MadeB.after {B : Nat} {p : Bool} {L : List Int} {w w1 w2 : World} {e : Ending} (h : MadeB B p L w1 e w2) (hb : Below w.heap.size w w1) : MadeB B p L w e w2 := by
  obtain ⟨A, c, he, hc, ho, hb2⟩ := h
  exact ⟨A, c, he, hc, ho, bt hb hb2⟩
theorem MadeB.more {B B' : Nat} {p : Bool} {L : List Int} {w w2 : World} {e : Ending} (h : MadeB B p L w e w2) (hB : B' ≤ B) : MadeB B' p L w e w2 := by
  obtain ⟨A, c, he, hc, ho, hb2⟩ := h
  exact ⟨A, c, he, hc, ho.more hB, hb2⟩

theorem isZero_any (A : Option Addr) (n c : Nat) (w : World) (hn : n ≤ 1048576) :
    Calls Tryz.prog 115 #[.slice A n c] w fun e w' => e = .returned (.bool (decide (n = 0))) ∧ w = w' := by
  by_cases h : n = 0
  · subst h
    go_enter Tryz.func115, Tryz.ntmps115
    go_wp2
    go_ret
    exact ⟨rfl, rfl⟩
  · have hz : ((n : Int) == 0) = false := by rw [beq_eq_false_iff_ne]; omega
    have hd : decide (n = 0) = false := decide_eq_false h
    go_enter Tryz.func115, Tryz.ntmps115
    go_wp2
    go_ret
    exact ⟨ret_bool' hd.symm, rfl⟩

/-- The two cells of a variable of the call's own. -/
def Two (w : World) (g : Nat) : Prop := ∃ u v, w.cell? ⟨g, 0, none⟩ = some u ∧ w.cell? ⟨g, 1, none⟩ = some v ∧ w.frozen? ⟨g, 0, none⟩ = false ∧ w.frozen? ⟨g, 1, none⟩ = false

set_option maxHeartbeats 800000 in
theorem signedOf_any (p : Bool) (A : Option Addr) (n c : Nat) (w : World) :
    Calls Tryz.prog 107 #[.agg #[.bool p, .slice A n c]] w fun e w' => e = .returned (.agg #[.bool p, .slice A n c]) ∧ Below w.heap.size w w' := by
  go_enter Tryz.func107, Tryz.ntmps107
  go_wp2
  exact bodyPost_ret (v := .agg #[.bool p, .slice A n c]) (by simp [results, Tryz.results107, go_sem]) rfl ⟨rfl, ba2 _ _ _⟩

set_option maxHeartbeats 800000 in
/-- 'bigInt': the struct handed on, 0 without its sign. -/
theorem bigInt_any (B : Nat) (p : Bool) (L : List Int) (A : Option Addr) (n c : Nat) (w : World) (hn : L.length = n) (h6 : n ≤ 1048576) (hc : n ≤ c) (ho : OwnS B w A (vi L)) :
    Calls Tryz.prog 110 #[.agg #[.bool p, .slice A n c]] w (MadeB B (p && decide (L ≠ [])) L w) := by
  have H := fun W => Lib.hid (isZero_any A n c W h6)
  by_cases h0 : n = 0
  · have hL : L = [] := List.eq_nil_of_length_eq_zero (hn.trans h0)
    subst hL
    have hd : decide (n = 0) = true := decide_eq_true h0
    rw [hd] at H
    rw [show (p && decide (([] : List Int) ≠ [])) = false by simp]
    clear hn h0 hd ho
    go_enter Tryz.func110, Tryz.ntmps110
    go_wp2_with fail
    refine (H _).out.mono ?_
    rintro e w1 ⟨rfl, rfl⟩
    go_wp2
    exact bodyPost_ret (v := .agg #[.bool false, .slice none 0 0]) (by simp [results, Tryz.results110, go_sem]) rfl ⟨none, 0, rfl, Nat.le_refl _, .inl rfl, ba2 _ _ _⟩
  · have hd : decide (n = 0) = false := decide_eq_false h0
    rw [hd] at H
    have hL : decide (L ≠ []) = true := decide_eq_true (by rintro rfl; exact h0 hn.symm)
    rw [hL, Bool.and_true]
    have HN := Lib.hid hn
    clear hn h0 hd hL
    go_enter Tryz.func110, Tryz.ntmps110
    go_wp2_with fail
    refine (H _).out.mono ?_
    rintro e w1 ⟨rfl, rfl⟩
    go_wp2
    exact bodyPost_ret (v := .agg #[.bool p, .slice A n c]) (by simp [results, Tryz.results110, go_sem]) rfl ⟨A, c, by rw [HN.out], by rw [HN.out]; exact hc, ho.below (ba2 _ _ _), ba2 _ _ _⟩

set_option maxHeartbeats 800000 in
theorem sum_any (a b : Nat) (A D : Option Addr) (n c n' d : Nat) (w : World) (hn : ln a = n) (hn' : ln b = n') (h60 : n ≤ 60) (h60' : n' ≤ 60) (hA : RdS w A (vi (nd a))) (hD : RdS w D (vi (nd b))) :
    Calls Tryz.prog 111 #[.slice A n c, .slice D n' d] w (MadeI w.heap.size (cap60 (a + b)) w) := by
  have H := Lib.hid (impl_add a b A D n c n' d w hn hn' h60 h60' hA hD)
  clear hn hn'
  generalize cap60 (a + b) = L at H ⊢
  go_enter Tryz.func111, Tryz.ntmps111
  go_wp2_with fail
  refine H.out.mono ?_
  rintro e w1 ⟨A1, c1, rfl, hc1, ho1, hb1⟩
  go_wp2
  go_ret
  exact ⟨A1, c1, rfl, hc1, ho1, hb1⟩

set_option maxHeartbeats 800000 in
theorem diff_any (a b : Nat) (A D : Option Addr) (n c n' d : Nat) (w : World) (hn : ln a = n) (hn' : ln b = n') (h60 : n ≤ 60) (h60' : n' ≤ 60) (hA : RdS w A (vi (nd a))) (hD : RdS w D (vi (nd b))) :
    Calls Tryz.prog 122 #[.slice A n c, .slice D n' d] w (MadeI w.heap.size (if b ≤ a then nd (a - b) else []) w) := by
  have H := Lib.hid (impl_sub a b A D n c n' d w hn hn' h60 h60' hA hD)
  clear hn hn'
  generalize (if b ≤ a then nd (a - b) else []) = L at H ⊢
  go_enter Tryz.func122, Tryz.ntmps122
  go_wp2_with fail
  refine H.out.mono ?_
  rintro e w1 ⟨A1, c1, rfl, hc1, ho1, hb1⟩
  go_wp2
  go_ret
  exact ⟨A1, c1, rfl, hc1, ho1, hb1⟩

set_option maxHeartbeats 800000 in
theorem prod_any (a b : Nat) (A D : Option Addr) (n c n' d : Nat) (w : World) (hn : ln a = n) (hn' : ln b = n') (h60 : n ≤ 60) (h60' : n' ≤ 60) (hA : RdS w A (vi (nd a))) (hD : RdS w D (vi (nd b))) :
    Calls Tryz.prog 126 #[.slice A n c, .slice D n' d] w (MadeI w.heap.size (cap60 (a * b)) w) := by
  have H := Lib.hid (impl_mul a b A D n c n' d w hn hn' h60 h60' hA hD)
  clear hn hn'
  generalize cap60 (a * b) = L at H ⊢
  go_enter Tryz.func126, Tryz.ntmps126
  go_wp2_with fail
  refine H.out.mono ?_
  rintro e w1 ⟨A1, c1, rfl, hc1, ho1, hb1⟩
  go_wp2
  go_ret
  exact ⟨A1, c1, rfl, hc1, ho1, hb1⟩

set_option maxHeartbeats 800000 in
theorem mcmp_any (a b : Nat) (A D : Option Addr) (n c n' d : Nat) (w : World) (hn : ln a = n) (hn' : ln b = n') (h60 : n ≤ 1048576) (h60' : n' ≤ 1048576) (hA : RdS w A (vi (nd a))) (hD : RdS w D (vi (nd b))) :
    Calls Tryz.prog 121 #[.slice A n c, .slice D n' d] w fun e w' => e = .returned (.int .i64 (cmpN a b)) ∧ Below w.heap.size w w' := by
  have H := Lib.hid (impl_cmp a b A D n c n' d w hn hn' h60 h60' hA hD)
  clear hn hn'
  generalize cmpN a b = r at H ⊢
  go_enter Tryz.func121, Tryz.ntmps121
  go_wp2_with fail
  refine H.out.mono ?_
  rintro e w1 ⟨rfl, hb1⟩
  go_wp2
  go_ret
  exact ⟨rfl, hb1⟩

theorem field_one (p : Bool) (A : Option Addr) (n c : Nat) (w : World) : (Instr.field 106 (.agg #[.bool p, .slice A n c]) 1).run Tryz.prog w = .ok (.slice A n c) w := by kernel_rfl

set_option maxHeartbeats 800000 in
theorem impl_bok (p : Bool) (l : List Int) (A : Option Addr) (n c : Nat) (w : World) (hl : l.length = n) (hn : n ≤ 9223372036854775807) (hA : RdS w A (vi l)) :
    Calls Tryz.prog 87 #[.agg #[.bool p, .slice A n c]] w fun e w' => e = .returned (.bool (okB p l)) ∧ Below w.heap.size w w' := by
  have H := Lib.hid (fun W h => impl_ok l A n c W hl hn h)
  by_cases hk : ok l = true
  · rw [hk] at H
    have h60 : n ≤ 60 := by obtain ⟨v, rfl, hv⟩ := ok_nd hk; rw [nd_length] at hl; omega
    have HO : Hid (okB p l = !(p && decide (n = 0))) := Lib.hid (by
      unfold okB
      rw [hk, Bool.true_and]
      congr 2
      exact decide_eq_decide.2 ⟨by rintro rfl; exact hl.symm, fun h => List.eq_nil_of_length_eq_zero (hl.trans h)⟩)
    have HZ := fun W => Lib.hid (isZero_any A n c W (by omega))
    clear hk hl
    generalize decide (n = 0) = z at HO HZ
    have hfl := field_one
    cases p
    · go_enter Tryz.func87, Tryz.ntmps87
      go_wp2_with fail
      refine (H.out _ (hA.below (ba1 _ _))).mono ?_
      rintro e w1 ⟨rfl, rfl⟩
      go_wp2
      go_ret
      exact ⟨ret_bool' HO.out.symm, ba1 _ _⟩
    · go_enter Tryz.func87, Tryz.ntmps87
      go_wp2_with fail
      refine (H.out _ (hA.below (ba1 _ _))).mono ?_
      rintro e w1 ⟨rfl, rfl⟩
      go_wp2_with fail
      refine (signedOf_any true A n c _).mono ?_
      rintro e w2 ⟨rfl, hb2⟩
      have hb2' := (ba1 _ _).trans (hb2.mono (by rw [sz1]; omega))
      go_wp2_with fail
      refine (HZ _).out.mono ?_
      rintro e w3 ⟨rfl, rfl⟩
      cases z
      · go_wp2
        go_ret
        exact ⟨ret_bool' HO.out.symm, hb2'⟩
      · go_wp2
        go_ret
        exact ⟨ret_bool' HO.out.symm, hb2'⟩
  · have hk' : ok l = false := by simpa using hk
    rw [hk'] at H
    rw [okB_no hk']
    clear hk hk' hl
    go_enter Tryz.func87, Tryz.ntmps87
    go_wp2_with fail
    refine (H.out _ (hA.below (ba1 _ _))).mono ?_
    rintro e w1 ⟨rfl, rfl⟩
    go_wp2
    go_ret
    exact ⟨rfl, ba1 _ _⟩

end Go.Proofs.YtennekieiioilaaGreat

namespace Go.Proofs.YtennekieiioilaaGreat
open Go.ChangeShapes Go.WideShapes Go.ChangeAt Go.RowKit
open Go.ChangeMaps (open_string shut_string)
set_option linter.unusedVariables false
set_option linter.unusedSimpArgs false
set_option maxRecDepth 4000

theorem cell_kept {W W' : World} {b o : Nat} {v : Value} (h : W.cell? ⟨b, o, none⟩ = some v) (hb : Below W.heap.size W W') : W'.cell? ⟨b, o, none⟩ = some v := by
  rw [hb.cell (p := ⟨b, o, none⟩) (World.block_lt_of_cell? W _ h)]; exact h
theorem Two.below {W W' : World} {g : Nat} (h : Two W g) (hb : Below W.heap.size W W') : Two W' g := by
  obtain ⟨u, v, h1, h2, h3, h4⟩ := h
  have hl := World.block_lt_of_cell? W _ h1
  exact ⟨u, v, cell_kept h1 hb, cell_kept h2 hb, by rw [hb.frozen (p := ⟨g, 0, none⟩) hl]; exact h3, by rw [hb.frozen (p := ⟨g, 1, none⟩) hl]; exact h4⟩
theorem cell_put {W : World} {b o g k : Nat} {v u : Value} (h : W.cell? ⟨b, o, none⟩ = some v) (hne : g ≠ b) : (W.setCell ⟨g, k, none⟩ u).cell? ⟨b, o, none⟩ = some v := by
  rw [World.cell?_setCell_other W ⟨g, k, none⟩ ⟨b, o, none⟩ u (by intro q; injection q with q1 _; exact hne q1)]; exact h
theorem Two.put {W : World} {g k : Nat} {u : Value} (h : Two W g) : Two (W.setCell ⟨g, k, none⟩ u) g := by
  obtain ⟨x, y, h1, h2, h3, h4⟩ := h
  have h1' : ∃ x', (W.setCell ⟨g, k, none⟩ u).cell? ⟨g, 0, none⟩ = some x' := by
    by_cases e : k = 0
    · subst e; exact ⟨u, World.cell?_setCell_same W ⟨g, 0, none⟩ u h1⟩
    · exact ⟨x, by rw [World.cell?_setCell_other W ⟨g, k, none⟩ ⟨g, 0, none⟩ u (by intro q; injection q with _ q2; exact e q2)]; exact h1⟩
  have h2' : ∃ x', (W.setCell ⟨g, k, none⟩ u).cell? ⟨g, 1, none⟩ = some x' := by
    by_cases e : k = 1
    · subst e; exact ⟨u, World.cell?_setCell_same W ⟨g, 1, none⟩ u h2⟩
    · exact ⟨y, by rw [World.cell?_setCell_other W ⟨g, k, none⟩ ⟨g, 1, none⟩ u (by intro q; injection q with _ q2; exact e q2)]; exact h2⟩
  obtain ⟨x', hx⟩ := h1'
  obtain ⟨y', hy⟩ := h2'
  exact ⟨x', y', hx, hy, by rw [World.frozen?_setCell]; exact h3, by rw [World.frozen?_setCell]; exact h4⟩
theorem Two.own {W w5 w : World} {r : Nat} {A : Option Addr} {l : List Value} (ht : Two W r) (ho : OwnS W.heap.size w5 A l) (hw : Below w.heap.size w W) (u u' : Value) : OwnS w.heap.size ((w5.setCell ⟨r, 0, none⟩ u).setCell ⟨r, 1, none⟩ u') A l := by
  obtain ⟨x, y, h1, _⟩ := ht
  have hl := World.block_lt_of_cell? W _ h1
  exact ((ho.put hl u).put hl u').more hw.size
/-- Three cells that a region reads, its result's two, and what it leaves alone: kept by a call, kept by the store of the result. -/
theorem kept3 {r b1 o1 b2 o2 b3 o3 : Nat} {v1 v2 v3 : Value} {W W' w : World} (h1 : W.cell? ⟨b1, o1, none⟩ = some v1) (h2 : W.cell? ⟨b2, o2, none⟩ = some v2) (h3 : W.cell? ⟨b3, o3, none⟩ = some v3) (ht : Two W r) (hw : Below w.heap.size w W) (hb : Below W.heap.size W W') :
    W'.cell? ⟨b1, o1, none⟩ = some v1 ∧ W'.cell? ⟨b2, o2, none⟩ = some v2 ∧ W'.cell? ⟨b3, o3, none⟩ = some v3 ∧ Two W' r ∧ Below w.heap.size w W' :=
  ⟨cell_kept h1 hb, cell_kept h2 hb, cell_kept h3 hb, ht.below hb, bt hw hb⟩
theorem put3 {r b1 o1 b2 o2 b3 o3 : Nat} {v1 v2 v3 : Value} {W w : World} (u u' : Value) (h1 : W.cell? ⟨b1, o1, none⟩ = some v1) (h2 : W.cell? ⟨b2, o2, none⟩ = some v2) (h3 : W.cell? ⟨b3, o3, none⟩ = some v3) (ht : Two W r) (hw : Below w.heap.size w W) (hr : w.heap.size ≤ r) (n1 : r ≠ b1) (n2 : r ≠ b2) (n3 : r ≠ b3) :
    ((W.setCell ⟨r, 0, none⟩ u).setCell ⟨r, 1, none⟩ u').cell? ⟨b1, o1, none⟩ = some v1 ∧ ((W.setCell ⟨r, 0, none⟩ u).setCell ⟨r, 1, none⟩ u').cell? ⟨b2, o2, none⟩ = some v2 ∧ ((W.setCell ⟨r, 0, none⟩ u).setCell ⟨r, 1, none⟩ u').cell? ⟨b3, o3, none⟩ = some v3 ∧ Two ((W.setCell ⟨r, 0, none⟩ u).setCell ⟨r, 1, none⟩ u') r ∧ Below w.heap.size w ((W.setCell ⟨r, 0, none⟩ u).setCell ⟨r, 1, none⟩ u') :=
  ⟨cell_put (cell_put h1 n1) n1, cell_put (cell_put h2 n2) n2, cell_put (cell_put h3 n3) n3, ht.put.put, below_put (below_put hw hr _) hr _⟩

theorem box0 (w : World) (T : TypeId) (x y : Value) : (w.alloc (.cells #[x, y] T)).cell? ⟨w.heap.size, 0, none⟩ = some x := by
  have h := cell_of_row _ _ 0 _ _ (0, 0) (heap_alloc_new w (.cells #[x, y] T))
  exact h
theorem box1 (w : World) (T : TypeId) (x y : Value) : (w.alloc (.cells #[x, y] T)).cell? ⟨w.heap.size, 1, none⟩ = some y := by
  have h := cell_of_row _ _ 1 _ _ (0, 0) (heap_alloc_new w (.cells #[x, y] T))
  exact h
theorem boxf (w : World) (T : TypeId) (x y : Value) (k : Nat) : (w.alloc (.cells #[x, y] T)).frozen? ⟨w.heap.size, k, none⟩ = false := by
  have h := heap_alloc_new w (.cells #[x, y] T)
  unfold World.frozen?; rw [h]; simp
theorem boxT (w : World) (T : TypeId) (x y : Value) : Two (w.alloc (.cells #[x, y] T)) w.heap.size := ⟨x, y, box0 w T x y, box1 w T x y, boxf w T x y 0, boxf w T x y 1⟩
theorem boxes3 (w : World) (T1 T2 T3 : TypeId) (x1 y1 x2 y2 x3 y3 : Value) (W : World) (hW : ((w.alloc (.cells #[x1, y1] T1)).alloc (.cells #[x2, y2] T2)).alloc (.cells #[x3, y3] T3) = W) :
    W.cell? ⟨w.heap.size, 0, none⟩ = some x1 ∧ W.cell? ⟨w.heap.size, 1, none⟩ = some y1 ∧ W.cell? ⟨w.heap.size + 1, 0, none⟩ = some x2 ∧ W.cell? ⟨w.heap.size + 1, 1, none⟩ = some y2 ∧ Two W (w.heap.size + 1 + 1) ∧ Below w.heap.size w W := by
  subst hW
  have h2 := ba1 ((w.alloc (.cells #[x1, y1] T1)).alloc (.cells #[x2, y2] T2)) (.cells #[x3, y3] T3)
  have h1 := ba2 (w.alloc (.cells #[x1, y1] T1)) (.cells #[x2, y2] T2) (.cells #[x3, y3] T3)
  have e1 := sz1 w (.cells #[x1, y1] T1)
  have e2 := sz2 w (.cells #[x1, y1] T1) (.cells #[x2, y2] T2)
  refine ⟨cell_kept (box0 w T1 x1 y1) h1, cell_kept (box1 w T1 x1 y1) h1, ?_, ?_, ?_, ba3 _ _ _ _⟩
  · have := box0 (w.alloc (.cells #[x1, y1] T1)) T2 x2 y2
    rw [e1] at this
    exact cell_kept this h2
  · have := box1 (w.alloc (.cells #[x1, y1] T1)) T2 x2 y2
    rw [e1] at this
    exact cell_kept this h2
  · have := boxT ((w.alloc (.cells #[x1, y1] T1)).alloc (.cells #[x2, y2] T2)) T3 x3 y3
    rw [e2] at this
    exact this

theorem Two.lt {W : World} {r : Nat} (h : Two W r) : r + 1 ≤ W.heap.size := by
  obtain ⟨x, y, h1, _⟩ := h
  exact World.block_lt_of_cell? W _ h1
/-- Four cells that a region reads, its result's two, and what it leaves alone. -/
theorem kept4 {r b1 o1 b2 o2 b3 o3 b4 o4 : Nat} {v1 v2 v3 v4 : Value} {W W' w : World} (h1 : W.cell? ⟨b1, o1, none⟩ = some v1) (h2 : W.cell? ⟨b2, o2, none⟩ = some v2) (h3 : W.cell? ⟨b3, o3, none⟩ = some v3) (h4 : W.cell? ⟨b4, o4, none⟩ = some v4) (ht : Two W r) (hw : Below w.heap.size w W) (hb : Below W.heap.size W W') :
    W'.cell? ⟨b1, o1, none⟩ = some v1 ∧ W'.cell? ⟨b2, o2, none⟩ = some v2 ∧ W'.cell? ⟨b3, o3, none⟩ = some v3 ∧ W'.cell? ⟨b4, o4, none⟩ = some v4 ∧ Two W' r ∧ Below w.heap.size w W' :=
  ⟨cell_kept h1 hb, cell_kept h2 hb, cell_kept h3 hb, cell_kept h4 hb, ht.below hb, bt hw hb⟩
theorem put4 {r b1 o1 b2 o2 b3 o3 b4 o4 : Nat} {v1 v2 v3 v4 : Value} {W w : World} (u u' : Value) (h1 : W.cell? ⟨b1, o1, none⟩ = some v1) (h2 : W.cell? ⟨b2, o2, none⟩ = some v2) (h3 : W.cell? ⟨b3, o3, none⟩ = some v3) (h4 : W.cell? ⟨b4, o4, none⟩ = some v4) (ht : Two W r) (hw : Below w.heap.size w W) (hr : w.heap.size ≤ r) (n1 : r ≠ b1) (n2 : r ≠ b2) (n3 : r ≠ b3) (n4 : r ≠ b4) :
    ((W.setCell ⟨r, 0, none⟩ u).setCell ⟨r, 1, none⟩ u').cell? ⟨b1, o1, none⟩ = some v1 ∧ ((W.setCell ⟨r, 0, none⟩ u).setCell ⟨r, 1, none⟩ u').cell? ⟨b2, o2, none⟩ = some v2 ∧ ((W.setCell ⟨r, 0, none⟩ u).setCell ⟨r, 1, none⟩ u').cell? ⟨b3, o3, none⟩ = some v3 ∧ ((W.setCell ⟨r, 0, none⟩ u).setCell ⟨r, 1, none⟩ u').cell? ⟨b4, o4, none⟩ = some v4 ∧ Two ((W.setCell ⟨r, 0, none⟩ u).setCell ⟨r, 1, none⟩ u') r ∧ Below w.heap.size w ((W.setCell ⟨r, 0, none⟩ u).setCell ⟨r, 1, none⟩ u') :=
  ⟨cell_put (cell_put h1 n1) n1, cell_put (cell_put h2 n2) n2, cell_put (cell_put h3 n3) n3, cell_put (cell_put h4 n4) n4, ht.put.put, below_put (below_put hw hr _) hr _⟩

set_option maxHeartbeats 1000000 in
theorem plus_same (p : Bool) (a b : Nat) (A D : Option Addr) (n c n' d : Nat) (w : World) (hn : ln a = n) (hn' : ln b = n') (h60 : n ≤ 60) (h60' : n' ≤ 60) (hA : RdS w A (vi (nd a))) (hD : RdS w D (vi (nd b))) :
    Calls Tryz.prog 95 #[.agg #[.bool p, .slice A n c], .agg #[.bool p, .slice D n' d]] w (MadeB w.heap.size p (cap60 (a + b)) w) := by
  have HS := Lib.hid (fun W h h' => sum_any a b A D n c n' d W hn hn' h60 h60' h h')
  have HR : Hid (∀ W, Below w.heap.size w W → RdS W A (vi (nd a)) ∧ RdS W D (vi (nd b))) := Lib.hid (fun W hb => ⟨hA.below hb, hD.below hb⟩)
  clear hn hn' hA hD
  generalize cap60 (a + b) = L at HS ⊢
  go_enter Tryz.func95, Tryz.ntmps95
  go_wp2_with fail
  generalize hW : ((w.alloc (.cells #[.bool p, .slice A n c] 106)).alloc (.cells #[.bool p, .slice D n' d] 106)).alloc (.cells #[.bool false, .slice none 0 0] 106) = W3
  obtain ⟨k0, k1, k2, k3, kt, kb⟩ := boxes3 _ _ _ _ _ _ _ _ _ _ _ hW
  clear hW
  obtain ⟨r, hr⟩ : ∃ r, r = w.heap.size + 1 + 1 := ⟨_, rfl⟩
  rw [← hr] at kt ⊢
  have hr1 : r ≠ w.heap.size := by omega
  have hr2 : r ≠ w.heap.size + 1 := by omega
  have hr3 : w.heap.size ≤ r := by omega
  clear hr
  go_region_held3 (fun w' => w'.cell? ⟨w.heap.size, 0, none⟩ = some (.bool p) ∧ w'.cell? ⟨w.heap.size, 1, none⟩ = some (.slice A n c) ∧ w'.cell? ⟨w.heap.size + 1, 0, none⟩ = some (.bool p) ∧ w'.cell? ⟨w.heap.size + 1, 1, none⟩ = some (.slice D n' d) ∧ Two w' r ∧ Below w.heap.size w w')
    (first | (exact ⟨k0, k1, k2, k3, kt, kb.drew⟩) | (go_split_ands; exact kept4 (by assumption) (by assumption) (by assumption) (by assumption) (by assumption) (by assumption) hbc) | (go_split_ands; exact put4 _ _ (by assumption) (by assumption) (by assumption) (by assumption) (by assumption) (by assumption) hr3 hr1 hr1 hr2 hr2))
    (first | (go_at_call 111; go_split_ands; refine (HS.out _ (HR.out _ (by assumption)).1 (HR.out _ (by assumption)).2).mono ?_; rintro e w5 ⟨A5, c5, rfl, hc5, hO5, hbc⟩; obtain ⟨u0, u1, t1, t2, t3, t4⟩ := Two.below (by assumption) hbc; have hOO := Two.own (by assumption) hO5 (by assumption)))
  have hfin := (‹_ ∧ _ ∧ _ ∧ _ ∧ _ ∧ Below w.heap.size w _›).2.2.2.2.2
  go_wp2
  exact bodyPost_ret (v := .agg #[.bool p, .slice A5 L.length c5]) (by simp [results, Tryz.results95, go_sem, t1, t2]) rfl ⟨A5, c5, rfl, hc5, hOO _ _, hfin⟩

set_option maxHeartbeats 1000000 in
theorem plus_less (p q : Bool) (a b : Nat) (A D : Option Addr) (n c n' d : Nat) (w : World) (hpq : (p == q) = false) (hab : a < b) (hn : ln a = n) (hn' : ln b = n') (h60 : n ≤ 60) (h60' : n' ≤ 60) (hA : RdS w A (vi (nd a))) (hD : RdS w D (vi (nd b))) :
    Calls Tryz.prog 95 #[.agg #[.bool p, .slice A n c], .agg #[.bool q, .slice D n' d]] w (MadeB w.heap.size q (if a ≤ b then nd (b - a) else []) w) := by
  have HC := Lib.hid (fun W h h' => mcmp_any a b A D n c n' d W hn hn' (by omega) (by omega) h h')
  have hv : cmpN a b < 0 := by rw [cmpN_lt hab]; decide
  clear hab
  generalize cmpN a b = v at HC hv
  have HS := Lib.hid (fun W h h' => diff_any b a D A n' d n c W hn' hn h60' h60 h' h)
  have HR : Hid (∀ W, Below w.heap.size w W → RdS W A (vi (nd a)) ∧ RdS W D (vi (nd b))) := Lib.hid (fun W hb => ⟨hA.below hb, hD.below hb⟩)
  clear hn hn' hA hD
  generalize (if a ≤ b then nd (b - a) else []) = L at HS ⊢
  go_enter Tryz.func95, Tryz.ntmps95
  go_wp2_with fail
  generalize hW : ((w.alloc (.cells #[.bool p, .slice A n c] 106)).alloc (.cells #[.bool q, .slice D n' d] 106)).alloc (.cells #[.bool false, .slice none 0 0] 106) = W3
  obtain ⟨k0, k1, k2, k3, kt, kb⟩ := boxes3 _ _ _ _ _ _ _ _ _ _ _ hW
  clear hW
  obtain ⟨r, hr⟩ : ∃ r, r = w.heap.size + 1 + 1 := ⟨_, rfl⟩
  rw [← hr] at kt ⊢
  have hr1 : r ≠ w.heap.size := by omega
  have hr2 : r ≠ w.heap.size + 1 := by omega
  have hr3 : w.heap.size ≤ r := by omega
  clear hr
  refine (HC.out _ (HR.out _ kb).1 (HR.out _ kb).2).mono ?_
  rintro e w4 ⟨rfl, hb4⟩
  replace k0 := cell_kept k0 hb4
  replace k1 := cell_kept k1 hb4
  replace k2 := cell_kept k2 hb4
  replace k3 := cell_kept k3 hb4
  replace kt := kt.below hb4
  replace kb := bt kb hb4
  clear hb4
  go_wp2_with fail
  go_region_held3 (fun w' => w'.cell? ⟨w.heap.size, 0, none⟩ = some (.bool p) ∧ w'.cell? ⟨w.heap.size, 1, none⟩ = some (.slice A n c) ∧ w'.cell? ⟨w.heap.size + 1, 0, none⟩ = some (.bool q) ∧ w'.cell? ⟨w.heap.size + 1, 1, none⟩ = some (.slice D n' d) ∧ Two w' r ∧ Below w.heap.size w w')
    (first | (exact ⟨k0, k1, k2, k3, kt, kb.drew⟩) | (go_split_ands; exact kept4 (by assumption) (by assumption) (by assumption) (by assumption) (by assumption) (by assumption) hbc) | (go_split_ands; exact put4 _ _ (by assumption) (by assumption) (by assumption) (by assumption) (by assumption) (by assumption) hr3 hr1 hr1 hr2 hr2))
    (first | (go_at_call 122; go_split_ands; refine (HS.out _ (HR.out _ (by assumption)).1 (HR.out _ (by assumption)).2).mono ?_; rintro e w5 ⟨A5, c5, rfl, hc5, hO5, hbc⟩; obtain ⟨u0, u1, t1, t2, t3, t4⟩ := Two.below (by assumption) hbc; have hOO := Two.own (by assumption) hO5 (by assumption)))
  have hfin := (‹_ ∧ _ ∧ _ ∧ _ ∧ _ ∧ Below w.heap.size w _›).2.2.2.2.2
  go_wp2
  exact bodyPost_ret (v := .agg #[.bool q, .slice A5 L.length c5]) (by simp [results, Tryz.results95, go_sem, t1, t2]) rfl ⟨A5, c5, rfl, hc5, hOO _ _, hfin⟩

set_option maxHeartbeats 1000000 in
theorem plus_geq (p q : Bool) (a b : Nat) (A D : Option Addr) (n c n' d : Nat) (w : World) (hpq : (p == q) = false) (hab : ¬ a < b) (hn : ln a = n) (hn' : ln b = n') (h60 : n ≤ 60) (h60' : n' ≤ 60) (hA : RdS w A (vi (nd a))) (hD : RdS w D (vi (nd b))) :
    Calls Tryz.prog 95 #[.agg #[.bool p, .slice A n c], .agg #[.bool q, .slice D n' d]] w (MadeB w.heap.size p (if b ≤ a then nd (a - b) else []) w) := by
  have HC := Lib.hid (fun W h h' => mcmp_any a b A D n c n' d W hn hn' (by omega) (by omega) h h')
  have hv : ¬ cmpN a b < 0 := by
    rcases Nat.lt_or_ge b a with h | h
    · rw [cmpN_gt h]; decide
    · rw [cmpN_eq (by omega)]; decide
  clear hab
  generalize cmpN a b = v at HC hv
  have HS := Lib.hid (fun W h h' => diff_any a b A D n c n' d W hn hn' h60 h60' h h')
  have HR : Hid (∀ W, Below w.heap.size w W → RdS W A (vi (nd a)) ∧ RdS W D (vi (nd b))) := Lib.hid (fun W hb => ⟨hA.below hb, hD.below hb⟩)
  clear hn hn' hA hD
  generalize (if b ≤ a then nd (a - b) else []) = L at HS ⊢
  go_enter Tryz.func95, Tryz.ntmps95
  go_wp2_with fail
  generalize hW : ((w.alloc (.cells #[.bool p, .slice A n c] 106)).alloc (.cells #[.bool q, .slice D n' d] 106)).alloc (.cells #[.bool false, .slice none 0 0] 106) = W3
  obtain ⟨k0, k1, k2, k3, kt, kb⟩ := boxes3 _ _ _ _ _ _ _ _ _ _ _ hW
  clear hW
  obtain ⟨r, hr⟩ : ∃ r, r = w.heap.size + 1 + 1 := ⟨_, rfl⟩
  rw [← hr] at kt ⊢
  have hr1 : r ≠ w.heap.size := by omega
  have hr2 : r ≠ w.heap.size + 1 := by omega
  have hr3 : w.heap.size ≤ r := by omega
  clear hr
  refine (HC.out _ (HR.out _ kb).1 (HR.out _ kb).2).mono ?_
  rintro e w4 ⟨rfl, hb4⟩
  replace k0 := cell_kept k0 hb4
  replace k1 := cell_kept k1 hb4
  replace k2 := cell_kept k2 hb4
  replace k3 := cell_kept k3 hb4
  replace kt := kt.below hb4
  replace kb := bt kb hb4
  clear hb4
  go_wp2_with fail
  go_region_held3 (fun w' => w'.cell? ⟨w.heap.size, 0, none⟩ = some (.bool p) ∧ w'.cell? ⟨w.heap.size, 1, none⟩ = some (.slice A n c) ∧ w'.cell? ⟨w.heap.size + 1, 0, none⟩ = some (.bool q) ∧ w'.cell? ⟨w.heap.size + 1, 1, none⟩ = some (.slice D n' d) ∧ Two w' r ∧ Below w.heap.size w w')
    (first | (exact ⟨k0, k1, k2, k3, kt, kb.drew⟩) | (go_split_ands; exact kept4 (by assumption) (by assumption) (by assumption) (by assumption) (by assumption) (by assumption) hbc) | (go_split_ands; exact put4 _ _ (by assumption) (by assumption) (by assumption) (by assumption) (by assumption) (by assumption) hr3 hr1 hr1 hr2 hr2))
    (first | (go_at_call 122; go_split_ands; refine (HS.out _ (HR.out _ (by assumption)).1 (HR.out _ (by assumption)).2).mono ?_; rintro e w5 ⟨A5, c5, rfl, hc5, hO5, hbc⟩; obtain ⟨u0, u1, t1, t2, t3, t4⟩ := Two.below (by assumption) hbc; have hOO := Two.own (by assumption) hO5 (by assumption)))
  have hfin := (‹_ ∧ _ ∧ _ ∧ _ ∧ _ ∧ Below w.heap.size w _›).2.2.2.2.2
  go_wp2
  exact bodyPost_ret (v := .agg #[.bool p, .slice A5 L.length c5]) (by simp [results, Tryz.results95, go_sem, t1, t2]) rfl ⟨A5, c5, rfl, hc5, hOO _ _, hfin⟩

/-- The sign and the magnitude of the sum. -/
def plusB (p : Bool) (a : Nat) (q : Bool) (b : Nat) : Bool := if p = q then p else if a < b then q else p
def plusN (p : Bool) (a : Nat) (q : Bool) (b : Nat) : Nat := if p = q then a + b else if a < b then b - a else a - b
theorem plus_any (p q : Bool) (a b : Nat) (A D : Option Addr) (n c n' d : Nat) (w : World) (hn : ln a = n) (hn' : ln b = n') (h60 : n ≤ 60) (h60' : n' ≤ 60) (hA : RdS w A (vi (nd a))) (hD : RdS w D (vi (nd b))) :
    Calls Tryz.prog 95 #[.agg #[.bool p, .slice A n c], .agg #[.bool q, .slice D n' d]] w (MadeB w.heap.size (plusB p a q b) (cap60 (plusN p a q b)) w) := by
  by_cases hpq : p = q
  · subst hpq
    have h := plus_same p a b A D n c n' d w hn hn' h60 h60' hA hD
    simpa [plusB, plusN] using h
  · have hq : (p == q) = false := by simpa using hpq
    by_cases hab : a < b
    · have h := plus_less p q a b A D n c n' d w hq hab hn hn' h60 h60' hA hD
      rw [if_pos (by omega)] at h
      unfold plusB plusN
      rw [if_neg hpq, if_pos hab, if_neg hpq, if_pos hab, cap60_yes' (by have := ln_mono (show b - a ≤ b by omega); omega)]
      exact h
    · have h := plus_geq p q a b A D n c n' d w hq hab hn hn' h60 h60' hA hD
      rw [if_pos (by omega)] at h
      unfold plusB plusN
      rw [if_neg hpq, if_neg hab, if_neg hpq, if_neg hab, cap60_yes' (by have := ln_mono (show a - b ≤ a by omega); omega)]
      exact h
theorem plus_z (x y : Int) : (if plusB (zn x) x.natAbs (zn y) y.natAbs then -((plusN (zn x) x.natAbs (zn y) y.natAbs : Nat) : Int) else (plusN (zn x) x.natAbs (zn y) y.natAbs : Nat)) = x + y := by
  unfold plusB plusN zn
  by_cases hx : x < 0 <;> by_cases hy : y < 0 <;> by_cases hab : x.natAbs < y.natAbs <;> simp [hx, hy, hab] <;> omega
end Go.Proofs.YtennekieiioilaaGreat

namespace Go.Proofs.YtennekieiioilaaGreat
open Go.ChangeShapes Go.WideShapes Go.ChangeAt Go.RowKit
open Go.ChangeMaps (open_string shut_string)
set_option linter.unusedVariables false
set_option linter.unusedSimpArgs false
set_option maxRecDepth 4000

set_option maxHeartbeats 1000000 in
theorem times_any (p q : Bool) (a b : Nat) (A D : Option Addr) (n c n' d : Nat) (w : World) (hn : ln a = n) (hn' : ln b = n') (h60 : n ≤ 60) (h60' : n' ≤ 60) (hA : RdS w A (vi (nd a))) (hD : RdS w D (vi (nd b))) :
    Calls Tryz.prog 98 #[.agg #[.bool p, .slice A n c], .agg #[.bool q, .slice D n' d]] w (MadeB w.heap.size (!(p == q)) (cap60 (a * b)) w) := by
  have HS := Lib.hid (fun W h h' => prod_any a b A D n c n' d W hn hn' h60 h60' h h')
  have HR : Hid (∀ W, Below w.heap.size w W → RdS W A (vi (nd a)) ∧ RdS W D (vi (nd b))) := Lib.hid (fun W hb => ⟨hA.below hb, hD.below hb⟩)
  clear hn hn' hA hD
  generalize cap60 (a * b) = L at HS ⊢
  go_enter Tryz.func98, Tryz.ntmps98
  go_wp2_with fail
  generalize hW : ((w.alloc (.cells #[.bool p, .slice A n c] 106)).alloc (.cells #[.bool q, .slice D n' d] 106)).alloc (.cells #[.bool false, .slice none 0 0] 106) = W3
  obtain ⟨k0, k1, k2, k3, kt, kb⟩ := boxes3 _ _ _ _ _ _ _ _ _ _ _ hW
  clear hW
  obtain ⟨r, hr⟩ : ∃ r, r = w.heap.size + 1 + 1 := ⟨_, rfl⟩
  rw [← hr] at kt ⊢
  have hr1 : r ≠ w.heap.size := by omega
  have hr2 : r ≠ w.heap.size + 1 := by omega
  have hr3 : w.heap.size ≤ r := by omega
  clear hr
  go_region_held3 (fun w' => w'.cell? ⟨w.heap.size, 0, none⟩ = some (.bool p) ∧ w'.cell? ⟨w.heap.size, 1, none⟩ = some (.slice A n c) ∧ w'.cell? ⟨w.heap.size + 1, 0, none⟩ = some (.bool q) ∧ w'.cell? ⟨w.heap.size + 1, 1, none⟩ = some (.slice D n' d) ∧ Two w' r ∧ Below w.heap.size w w')
    (first | (exact ⟨k0, k1, k2, k3, kt, kb.drew⟩) | (go_split_ands; exact kept4 (by assumption) (by assumption) (by assumption) (by assumption) (by assumption) (by assumption) hbc) | (go_split_ands; exact put4 _ _ (by assumption) (by assumption) (by assumption) (by assumption) (by assumption) (by assumption) hr3 hr1 hr1 hr2 hr2))
    (first | (go_at_call 126; go_split_ands; refine (HS.out _ (HR.out _ (by assumption)).1 (HR.out _ (by assumption)).2).mono ?_; rintro e w5 ⟨A5, c5, rfl, hc5, hO5, hbc⟩; obtain ⟨u0, u1, t1, t2, t3, t4⟩ := Two.below (by assumption) hbc; have hOO := Two.own (by assumption) hO5 (by assumption)))
  have hfin := (‹_ ∧ _ ∧ _ ∧ _ ∧ _ ∧ Below w.heap.size w _›).2.2.2.2.2
  go_wp2
  exact bodyPost_ret (v := .agg #[.bool (!(p == q)), .slice A5 L.length c5]) (by simp [results, Tryz.results98, go_sem, t1, t2]) rfl ⟨A5, c5, rfl, hc5, hOO _ _, hfin⟩
theorem times_z (x y : Int) : (if (!(zn x == zn y)) then -((x.natAbs * y.natAbs : Nat) : Int) else ((x.natAbs * y.natAbs : Nat) : Int)) = x * y := by
  unfold zn
  rw [Int.natCast_mul]
  by_cases hx : x < 0
  · have ex : ((x.natAbs : Nat) : Int) = -x := by omega
    by_cases hy : y < 0
    · have ey : ((y.natAbs : Nat) : Int) = -y := by omega
      rw [ex, ey, decide_eq_true hx, decide_eq_true hy]
      simp [Int.neg_mul, Int.mul_neg]
    · have ey : ((y.natAbs : Nat) : Int) = y := by omega
      rw [ex, ey, decide_eq_true hx, decide_eq_false hy]
      simp [Int.neg_mul, Int.mul_neg]
  · have ex : ((x.natAbs : Nat) : Int) = x := by omega
    by_cases hy : y < 0
    · have ey : ((y.natAbs : Nat) : Int) = -y := by omega
      rw [ex, ey, decide_eq_false hx, decide_eq_true hy]
      simp [Int.neg_mul, Int.mul_neg]
    · have ey : ((y.natAbs : Nat) : Int) = y := by omega
      rw [ex, ey, decide_eq_false hx, decide_eq_false hy]
      simp [Int.neg_mul, Int.mul_neg]
theorem cap60_len' (v : Nat) : (cap60 v).length ≤ 60 := by
  by_cases h : ln v ≤ 60
  · rw [cap60_yes' h, nd_length]; exact h
  · rw [cap60_no' (by omega)]; simp

/-- An integer as a struct of the call's own. -/
def MadeZ (B : Nat) (z : Int) (w : World) (e : Ending) (w' : World) : Prop := MadeB B (zn z) (zm z) w e w'
theorem okB_two {p q : Bool} {l m : List Int} (h : (okB p l && okB q m) = true) : okB p l = true ∧ okB q m = true := by simpa using h
/-- The sum of x and y where only y's sign is turned: also at y = 0, whose sign may then be wrong. -/
theorem plus_neg (x y : Int) : (if plusB (zn x) x.natAbs (!(zn y)) y.natAbs then -((plusN (zn x) x.natAbs (!(zn y)) y.natAbs : Nat) : Int) else (plusN (zn x) x.natAbs (!(zn y)) y.natAbs : Nat)) = x - y := by
  unfold plusB plusN zn
  by_cases hx : x < 0 <;> by_cases hy : y < 0 <;> by_cases hab : x.natAbs < y.natAbs <;> simp [hx, hy, hab] <;> omega

end Go.Proofs.YtennekieiioilaaGreat

namespace Go.Proofs.YtennekieiioilaaGreat
open Go.ChangeShapes Go.WideShapes Go.ChangeAt Go.RowKit
open Go.ChangeMaps (open_string shut_string)
set_option linter.unusedVariables false
set_option linter.unusedSimpArgs false
set_option maxRecDepth 4000

theorem copy_zero (v : Nat) (A : Option Addr) (n c : Nat) (w : World) (hl : ln v = n) (hn : n ≤ 1048576) (hA : RdS w A (vi (nd v))) :
    Calls Tryz.prog 84 #[.slice A n c, .int .i64 0] w (MadeI w.heap.size (nd v) w) :=
  (copy_int v A n c 0 0 w rfl hl hn (by omega) hA).mono fun e w' ⟨g, hg, he, hB, hb⟩ => by
    have hr : row (n + 0) v = nd v := by unfold nd; rw [hl]; rfl
    rw [hr] at hB
    exact ⟨some ⟨g, 0, none⟩, n + 0, by rw [he, nd_length, hl]; rfl, by rw [nd_length, hl]; omega, hB.own hg, hb⟩
theorem kept2 {r b1 o1 b2 o2 : Nat} {v1 v2 : Value} {W W' w : World} (h1 : W.cell? ⟨b1, o1, none⟩ = some v1) (h2 : W.cell? ⟨b2, o2, none⟩ = some v2) (ht : Two W r) (hw : Below w.heap.size w W) (hb : Below W.heap.size W W') :
    W'.cell? ⟨b1, o1, none⟩ = some v1 ∧ W'.cell? ⟨b2, o2, none⟩ = some v2 ∧ Two W' r ∧ Below w.heap.size w W' :=
  ⟨cell_kept h1 hb, cell_kept h2 hb, ht.below hb, bt hw hb⟩
theorem put2 {r b1 o1 b2 o2 : Nat} {v1 v2 : Value} {W w : World} (u u' : Value) (h1 : W.cell? ⟨b1, o1, none⟩ = some v1) (h2 : W.cell? ⟨b2, o2, none⟩ = some v2) (ht : Two W r) (hw : Below w.heap.size w W) (hr : w.heap.size ≤ r) (n1 : r ≠ b1) (n2 : r ≠ b2) :
    ((W.setCell ⟨r, 0, none⟩ u).setCell ⟨r, 1, none⟩ u').cell? ⟨b1, o1, none⟩ = some v1 ∧ ((W.setCell ⟨r, 0, none⟩ u).setCell ⟨r, 1, none⟩ u').cell? ⟨b2, o2, none⟩ = some v2 ∧ Two ((W.setCell ⟨r, 0, none⟩ u).setCell ⟨r, 1, none⟩ u') r ∧ Below w.heap.size w ((W.setCell ⟨r, 0, none⟩ u).setCell ⟨r, 1, none⟩ u') :=
  ⟨cell_put (cell_put h1 n1) n1, cell_put (cell_put h2 n2) n2, ht.put.put, below_put (below_put hw hr _) hr _⟩
theorem boxes2 (w : World) (T1 T3 : TypeId) (x1 y1 x3 y3 : Value) (W : World) (hW : (w.alloc (.cells #[x1, y1] T1)).alloc (.cells #[x3, y3] T3) = W) :
    W.cell? ⟨w.heap.size, 0, none⟩ = some x1 ∧ W.cell? ⟨w.heap.size, 1, none⟩ = some y1 ∧ Two W (w.heap.size + 1) ∧ Below w.heap.size w W := by
  subst hW
  have h1 := ba1 (w.alloc (.cells #[x1, y1] T1)) (.cells #[x3, y3] T3)
  have e1 := sz1 w (.cells #[x1, y1] T1)
  refine ⟨cell_kept (box0 w T1 x1 y1) h1, cell_kept (box1 w T1 x1 y1) h1, ?_, ba2 _ _ _⟩
  have := boxT (w.alloc (.cells #[x1, y1] T1)) T3 x3 y3
  rw [e1] at this
  exact this

theorem neg_z (x : Int) : (if (!(zn x)) then -((x.natAbs : Nat) : Int) else ((x.natAbs : Nat) : Int)) = -x := by
  unfold zn
  by_cases hx : x < 0 <;> simp [hx] <;> omega
/-- The order of two integers. -/
def cmpZ (x y : Int) : Int := if x < y then -1 else if y < x then 1 else 0
theorem cmpZ_range (x y : Int) : -1 ≤ cmpZ x y ∧ cmpZ x y ≤ 1 := by
  unfold cmpZ
  split
  · omega
  · split <;> omega
theorem cmpZ_pos {x y : Int} (hx : ¬ x < 0) (hy : ¬ y < 0) : cmpN x.natAbs y.natAbs = cmpZ x y := by
  unfold cmpN cmpZ
  by_cases h1 : x < y
  · rw [if_pos (by omega), if_pos h1]
  · rw [if_neg (by omega), if_neg h1]
    by_cases h2 : y < x
    · rw [if_pos (by omega), if_pos h2]
    · rw [if_neg (by omega), if_neg h2]
theorem cmpZ_neg {x y : Int} (hx : x < 0) (hy : y < 0) : cmpN y.natAbs x.natAbs = cmpZ x y := by
  unfold cmpN cmpZ
  by_cases h1 : x < y
  · rw [if_pos (by omega), if_pos h1]
  · rw [if_neg (by omega), if_neg h1]
    by_cases h2 : y < x
    · rw [if_pos (by omega), if_pos h2]
    · rw [if_neg (by omega), if_neg h2]

set_option maxHeartbeats 1000000 in
theorem order_any (x y : Int) (A D : Option Addr) (n c n' d : Nat) (w : World) (hn : ln x.natAbs = n) (hn' : ln y.natAbs = n') (h60 : n ≤ 60) (h60' : n' ≤ 60) (hA : RdS w A (vi (zm x))) (hD : RdS w D (vi (zm y))) :
    Calls Tryz.prog 108 #[.agg #[.bool (zn x), .slice A n c], .agg #[.bool (zn y), .slice D n' d]] w fun e w' => e = .returned (.int .i64 (cmpZ x y)) ∧ Below w.heap.size w w' := by
  have H1 := Lib.hid (fun W h h' => mcmp_any x.natAbs y.natAbs A D n c n' d W hn hn' (by omega) (by omega) h h')
  have H2 := Lib.hid (fun W h h' => mcmp_any y.natAbs x.natAbs D A n' d n c W hn' hn (by omega) (by omega) h h')
  have HR : Hid (∀ W, Below w.heap.size w W → RdS W A (vi (nd x.natAbs)) ∧ RdS W D (vi (nd y.natAbs))) := Lib.hid (fun W hb => ⟨hA.below hb, hD.below hb⟩)
  clear hn hn' hA hD
  by_cases hx : x < 0
  · have ex : zn x = true := decide_eq_true hx
    by_cases hy : y < 0
    · have ey : zn y = true := decide_eq_true hy
      rw [cmpZ_neg hx hy] at H2
      rw [ex, ey]
      clear ex ey hx hy H1
      generalize cmpZ x y = r at H2 ⊢
      go_enter Tryz.func108, Tryz.ntmps108
      go_wp2_with fail
      refine (H2.out _ (HR.out _ (ba2 _ _ _)).2 (HR.out _ (ba2 _ _ _)).1).mono ?_
      rintro e w1 ⟨rfl, hb⟩
      have kb := (ba2 _ _ _).trans (hb.mono (by rw [sz2]; omega))
      go_wp2
      go_ret
      exact ⟨rfl, kb⟩
    · have ey : zn y = false := decide_eq_false hy
      have er : Hid (cmpZ x y = -1) := Lib.hid (if_pos (by omega))
      rw [ex, ey]
      clear ex ey hx hy H1 H2
      go_enter Tryz.func108, Tryz.ntmps108
      go_wp2
      go_ret
      exact ⟨ret_int' er.out.symm, ba2 _ _ _⟩
  · have ex : zn x = false := decide_eq_false hx
    by_cases hy : y < 0
    · have ey : zn y = true := decide_eq_true hy
      have er : Hid (cmpZ x y = 1) := Lib.hid (by unfold cmpZ; rw [if_neg (by omega), if_pos (by omega)])
      rw [ex, ey]
      clear ex ey hx hy H1 H2
      go_enter Tryz.func108, Tryz.ntmps108
      go_wp2
      go_ret
      exact ⟨ret_int' er.out.symm, ba2 _ _ _⟩
    · have ey : zn y = false := decide_eq_false hy
      rw [cmpZ_pos hx hy] at H1
      rw [ex, ey]
      clear ex ey hx hy H2
      generalize cmpZ x y = r at H1 ⊢
      go_enter Tryz.func108, Tryz.ntmps108
      go_wp2_with fail
      refine (H1.out _ (HR.out _ (ba2 _ _ _)).1 (HR.out _ (ba2 _ _ _)).2).mono ?_
      rintro e w1 ⟨rfl, hb⟩
      have kb := (ba2 _ _ _).trans (hb.mono (by rw [sz2]; omega))
      go_wp2
      go_ret
      exact ⟨rfl, kb⟩
/-- The answer of 'BigIntCmp'. -/
def cmpB (p : Bool) (l : List Int) (q : Bool) (m : List Int) : Int := binZ cmpZ p l q m
theorem held4 {b1 o1 b2 o2 b3 o3 b4 o4 : Nat} {v1 v2 v3 v4 : Value} {W W' w : World} (h1 : W.cell? ⟨b1, o1, none⟩ = some v1) (h2 : W.cell? ⟨b2, o2, none⟩ = some v2) (h3 : W.cell? ⟨b3, o3, none⟩ = some v3) (h4 : W.cell? ⟨b4, o4, none⟩ = some v4) (hw : Below w.heap.size w W) (hb : Below W.heap.size W W') :
    W'.cell? ⟨b1, o1, none⟩ = some v1 ∧ W'.cell? ⟨b2, o2, none⟩ = some v2 ∧ W'.cell? ⟨b3, o3, none⟩ = some v3 ∧ W'.cell? ⟨b4, o4, none⟩ = some v4 ∧ Below w.heap.size w W' :=
  ⟨cell_kept h1 hb, cell_kept h2 hb, cell_kept h3 hb, cell_kept h4 hb, bt hw hb⟩
theorem boxesP (w : World) (T1 T2 : TypeId) (x1 y1 x2 y2 : Value) (W : World) (hW : (w.alloc (.cells #[x1, y1] T1)).alloc (.cells #[x2, y2] T2) = W) :
    W.cell? ⟨w.heap.size, 0, none⟩ = some x1 ∧ W.cell? ⟨w.heap.size, 1, none⟩ = some y1 ∧ W.cell? ⟨w.heap.size + 1, 0, none⟩ = some x2 ∧ W.cell? ⟨w.heap.size + 1, 1, none⟩ = some y2 ∧ Below w.heap.size w W := by
  subst hW
  have h1 := ba1 (w.alloc (.cells #[x1, y1] T1)) (.cells #[x2, y2] T2)
  have e1 := sz1 w (.cells #[x1, y1] T1)
  refine ⟨cell_kept (box0 w T1 x1 y1) h1, cell_kept (box1 w T1 x1 y1) h1, ?_, ?_, ba2 _ _ _⟩
  · have := box0 (w.alloc (.cells #[x1, y1] T1)) T2 x2 y2
    rw [e1] at this
    exact this
  · have := box1 (w.alloc (.cells #[x1, y1] T1)) T2 x2 y2
    rw [e1] at this
    exact this

end Go.Proofs.YtennekieiioilaaGreat

namespace Go.Proofs.YtennekieiioilaaGreat
open Go.ChangeShapes Go.WideShapes Go.ChangeAt Go.RowKit
open Go.ChangeMaps (open_string shut_string)
set_option linter.unusedVariables false
set_option linter.unusedSimpArgs false
set_option maxRecDepth 4000

/-- A slice that reads as L. -/
def CapR (L : List Int) (w : World) (e : Ending) (w' : World) : Prop := ∃ A c, e = .returned (.slice A L.length c) ∧ RdS w' A (vi L) ∧ Below w.heap.size w w'
theorem MadeI.capR {B : Nat} {L : List Int} {w w' : World} {e : Ending} (h : MadeI B L w e w') : CapR L w e w' := by
  obtain ⟨A, c, he, _, ho, hb⟩ := h
  exact ⟨A, c, he, ho.rd, hb⟩

set_option maxHeartbeats 800000 in
theorem trim_rd (v n c : Nat) (A : Option Addr) (w : World) (hn : ln v = n) (h6 : n ≤ 1048576) (hc : n ≤ c) (hA : RdS w A (vi (nd v))) :
    Calls Tryz.prog 135 #[.slice A n c] w (CapR (nd v) w) := by
  by_cases h0 : n = 0
  · subst h0
    have hz : nd v = [] := by unfold nd; rw [hn]; rfl
    rw [hz]
    clear hA
    cases A with
    | none =>
      go_enter Tryz.func135, Tryz.ntmps135
      go_wp2
      go_loop [3] (fun i => i = .int .i64 0) (fun i => 0)
      case atStart => exact rfl
      case round =>
        obtain rfl := hrel
        go_wp2
        go_ret
        exact ⟨_, _, rfl, .inl rfl, Below.refl _ _⟩
    | some ad =>
      go_enter Tryz.func135, Tryz.ntmps135
      go_wp2
      go_loop [3] (fun i => i = .int .i64 0) (fun i => 0)
      case atStart => exact rfl
      case round =>
        obtain rfl := hrel
        go_wp2
        go_ret
        exact ⟨_, _, rfl, .inl rfl, Below.refl _ _⟩
  · obtain ⟨b1, o1, rfl, hb1, e1⟩ := hA.int (nd_get (v := v) (i := n - 1) (by omega))
    have hv0 : 0 < v := by rcases Nat.eq_zero_or_pos v with h | h; (subst h; rw [ln_zero] at hn; omega); exact h
    have hne : dgt v (n - 1) ≠ 0 := by have := top_ne hv0; rwa [hn] at this
    have HA := Lib.hid hA
    have hk1 : ((n : Int) - 1) = ((n - 1 : Nat) : Int) := by omega
    have hp : 0 < n := by omega
    have HN : Hid ((nd v).length = n) := Lib.hid (by rw [nd_length, hn])
    clear hA hn
    generalize dgt v (n - 1) = x at e1 hne
    have q : (x == 0) = false := by rw [beq_eq_false_iff_ne]; exact hne
    go_enter Tryz.func135, Tryz.ntmps135
    go_wp2
    go_loop [3] (fun i => i = .int .i64 (n : Int)) (fun i => 0)
    case atStart => exact rfl
    case round =>
      obtain rfl := hrel
      go_wp2
      go_ret
      exact ⟨_, _, by rw [HN.out]; rfl, HA.out, Below.refl _ _⟩

set_option maxHeartbeats 800000 in
theorem cap_rd (v n c : Nat) (A : Option Addr) (w : World) (hn : ln v = n) (h6 : n ≤ 1048576) (hc : n ≤ c) (hA : RdS w A (vi (nd v))) :
    Calls Tryz.prog 130 #[.slice A n c] w (CapR (cap60 v) w) := by
  have H := Lib.hid (trim_rd v n c A w hn h6 hc hA)
  clear hA
  have hl : (nd v).length = n := by rw [nd_length, hn]
  by_cases h60 : n ≤ 60
  · rw [cap60_yes' (by omega)]
    have hl60 : (nd v).length ≤ 60 := by omega
    clear hn hl
    generalize nd v = L at H hl60 ⊢
    go_enter Tryz.func130, Tryz.ntmps130
    go_wp2_with fail
    refine H.out.mono ?_
    rintro e w1 ⟨A', c', rfl, ho', hb'⟩
    go_wp2
    go_ret
    exact ⟨A', c', rfl, ho', hb'⟩
  · rw [cap60_no' (by omega)]
    have hl60 : 60 < (nd v).length := by omega
    clear hn hl
    generalize nd v = L at H hl60
    go_enter Tryz.func130, Tryz.ntmps130
    go_wp2_with fail
    refine H.out.mono ?_
    rintro e w1 ⟨A', c', rfl, ho', hb'⟩
    go_wp2
    go_ret
    exact ⟨none, 0, rfl, .inl rfl, hb'⟩

set_option maxHeartbeats 1000000 in
theorem make_pos (L : List Int) (A : Option Addr) (n c : Nat) (w : World) (HC : ∀ W, Below w.heap.size w W → Calls Tryz.prog 130 #[.slice A n c] W (CapR L W)) (hL : L.length ≤ 1048576) :
    Calls Tryz.prog 105 #[.bool false, .slice A n c] w (MadeB w.heap.size false L w) := by
  have HC' := Lib.hid HC
  clear HC
  go_enter Tryz.func105, Tryz.ntmps105
  go_wp2_with fail
  have kt := boxT w 28 (.bool false) (.slice none 0 0)
  have kb := ba1 w (.cells #[.bool false, .slice none 0 0] 28)
  generalize w.alloc (.cells #[.bool false, .slice none 0 0] 28) = W1 at kt kb ⊢
  refine (HC'.out _ kb).mono ?_
  rintro e w1 ⟨A1, c1, rfl, hr1, hb1⟩
  replace kt := kt.below hb1
  replace kb := bt kb hb1
  have hal : Below w1.heap.size w1 (w1.alloc (.cells #[] 3)) := ba1 _ _
  have hs1 : (w1.alloc (.cells #[] 3)).ownsRow w1.heap.size 3 1 (.slice (some ⟨w1.heap.size, 0, none⟩) 0 0) 0 (vi []) := World.ownsRow_made w1 #[] 0 (by omega) (by simp [maxLen]) rfl
  go_wp2_with (at_builtin; refine append_rd rfl (.tmp 14) (.tmp 15) rfl w1.heap.size 0 L.length c1 _ [] L A1 (w1.alloc (.cells #[] 3)) rfl rfl hs1 (by omega) hL rfl (hr1.below hal) (by simp) ?_; intro v2 w2 hown2 hb2 hsz2; refine cut_here ?_)
  have hb12 : Below w1.heap.size w1 w2 := hal.trans hb2
  obtain ⟨A2, c2, hv2, hc2, _, _⟩ := own_len hown2
  have hO2 := OwnS.of_own (A := A2) (n := 0 + L.length) (c := c2) (by rw [← hv2]; exact hown2)
  subst hv2
  rw [Nat.zero_add] at hc2 ⊢
  rw [List.nil_append] at hO2
  have hlt := kt.lt
  obtain ⟨u0, u1, t1, t2, t3, t4⟩ := kt.below hb12
  have hbw := bt kb hb12
  clear hown2 hs1 hal hb2 hsz2
  refine Cut.of ?_
  go_wp2
  exact bodyPost_ret (v := .agg #[.bool false, .slice A2 L.length c2]) (by simp [results, Tryz.results105, go_sem, t1, t2]) rfl ⟨A2, c2, rfl, hc2, ((hO2.put (by omega) _).put (by omega) _).more (by omega), below_put (below_put hbw (by omega) _) (by omega) _⟩

set_option maxHeartbeats 1000000 in
theorem make_neg (L : List Int) (A : Option Addr) (n c : Nat) (w : World) (HC : ∀ W, Below w.heap.size w W → Calls Tryz.prog 130 #[.slice A n c] W (CapR L W)) (hL : L.length ≤ 1048576) (h0 : 0 < L.length) :
    Calls Tryz.prog 105 #[.bool true, .slice A n c] w (MadeB w.heap.size true L w) := by
  have HC' := Lib.hid HC
  clear HC
  go_enter Tryz.func105, Tryz.ntmps105
  go_wp2_with fail
  have kt := boxT w 28 (.bool false) (.slice none 0 0)
  have kb := ba1 w (.cells #[.bool false, .slice none 0 0] 28)
  generalize w.alloc (.cells #[.bool false, .slice none 0 0] 28) = W1 at kt kb ⊢
  refine (HC'.out _ kb).mono ?_
  rintro e w1 ⟨A1, c1, rfl, hr1, hb1⟩
  replace kt := kt.below hb1
  replace kb := bt kb hb1
  have hal : Below w1.heap.size w1 (w1.alloc (.cells #[] 3)) := ba1 _ _
  have hs1 : (w1.alloc (.cells #[] 3)).ownsRow w1.heap.size 3 1 (.slice (some ⟨w1.heap.size, 0, none⟩) 0 0) 0 (vi []) := World.ownsRow_made w1 #[] 0 (by omega) (by simp [maxLen]) rfl
  go_wp2_with (at_builtin; refine append_rd rfl (.tmp 14) (.tmp 15) rfl w1.heap.size 0 L.length c1 _ [] L A1 (w1.alloc (.cells #[] 3)) rfl rfl hs1 (by omega) hL rfl (hr1.below hal) (by simp) ?_; intro v2 w2 hown2 hb2 hsz2; refine cut_here ?_)
  have hb12 : Below w1.heap.size w1 w2 := hal.trans hb2
  obtain ⟨A2, c2, hv2, hc2, _, _⟩ := own_len hown2
  have hO2 := OwnS.of_own (A := A2) (n := 0 + L.length) (c := c2) (by rw [← hv2]; exact hown2)
  subst hv2
  rw [Nat.zero_add] at hc2 ⊢
  rw [List.nil_append] at hO2
  have hlt := kt.lt
  obtain ⟨u0, u1, t1, t2, t3, t4⟩ := kt.below hb12
  have hbw := bt kb hb12
  clear hown2 hs1 hal hb2 hsz2
  refine Cut.of ?_
  go_wp2
  exact bodyPost_ret (v := .agg #[.bool true, .slice A2 L.length c2]) (by simp [results, Tryz.results105, go_sem, t1, t2]) rfl ⟨A2, c2, rfl, hc2, ((hO2.put (by omega) _).put (by omega) _).more (by omega), below_put (below_put hbw (by omega) _) (by omega) _⟩

set_option maxHeartbeats 1000000 in
theorem make_nul (L : List Int) (A : Option Addr) (n c : Nat) (w : World) (HC : ∀ W, Below w.heap.size w W → Calls Tryz.prog 130 #[.slice A n c] W (CapR L W)) (hL : L.length ≤ 1048576) (h0 : ¬ 0 < L.length) :
    Calls Tryz.prog 105 #[.bool true, .slice A n c] w (MadeB w.heap.size false L w) := by
  have HC' := Lib.hid HC
  clear HC
  go_enter Tryz.func105, Tryz.ntmps105
  go_wp2_with fail
  have kt := boxT w 28 (.bool false) (.slice none 0 0)
  have kb := ba1 w (.cells #[.bool false, .slice none 0 0] 28)
  generalize w.alloc (.cells #[.bool false, .slice none 0 0] 28) = W1 at kt kb ⊢
  refine (HC'.out _ kb).mono ?_
  rintro e w1 ⟨A1, c1, rfl, hr1, hb1⟩
  replace kt := kt.below hb1
  replace kb := bt kb hb1
  have hal : Below w1.heap.size w1 (w1.alloc (.cells #[] 3)) := ba1 _ _
  have hs1 : (w1.alloc (.cells #[] 3)).ownsRow w1.heap.size 3 1 (.slice (some ⟨w1.heap.size, 0, none⟩) 0 0) 0 (vi []) := World.ownsRow_made w1 #[] 0 (by omega) (by simp [maxLen]) rfl
  go_wp2_with (at_builtin; refine append_rd rfl (.tmp 14) (.tmp 15) rfl w1.heap.size 0 L.length c1 _ [] L A1 (w1.alloc (.cells #[] 3)) rfl rfl hs1 (by omega) hL rfl (hr1.below hal) (by simp) ?_; intro v2 w2 hown2 hb2 hsz2; refine cut_here ?_)
  have hb12 : Below w1.heap.size w1 w2 := hal.trans hb2
  obtain ⟨A2, c2, hv2, hc2, _, _⟩ := own_len hown2
  have hO2 := OwnS.of_own (A := A2) (n := 0 + L.length) (c := c2) (by rw [← hv2]; exact hown2)
  subst hv2
  rw [Nat.zero_add] at hc2 ⊢
  rw [List.nil_append] at hO2
  have hlt := kt.lt
  obtain ⟨u0, u1, t1, t2, t3, t4⟩ := kt.below hb12
  have hbw := bt kb hb12
  clear hown2 hs1 hal hb2 hsz2
  refine Cut.of ?_
  go_wp2
  exact bodyPost_ret (v := .agg #[.bool false, .slice A2 L.length c2]) (by simp [results, Tryz.results105, go_sem, t1, t2]) rfl ⟨A2, c2, rfl, hc2, ((hO2.put (by omega) _).put (by omega) _).more (by omega), below_put (below_put hbw (by omega) _) (by omega) _⟩
theorem make_any (p : Bool) (L : List Int) (A : Option Addr) (n c : Nat) (w : World) (HC : ∀ W, Below w.heap.size w W → Calls Tryz.prog 130 #[.slice A n c] W (CapR L W)) (hL : L.length ≤ 1048576) :
    Calls Tryz.prog 105 #[.bool p, .slice A n c] w (MadeB w.heap.size (p && decide (L ≠ [])) L w) := by
  cases p
  · exact make_pos L A n c w HC hL
  · by_cases h0 : 0 < L.length
    · have h := make_neg L A n c w HC hL h0
      rw [show (true && decide (L ≠ [])) = true by rw [Bool.true_and]; exact decide_eq_true (by rintro rfl; simp at h0)]
      exact h
    · have h := make_nul L A n c w HC hL h0
      have hz : L = [] := List.eq_nil_of_length_eq_zero (by omega)
      rw [show (true && decide (L ≠ [])) = false by rw [hz]; rfl]
      exact h
/-- 'l03Make' of limbs that read as v, without a zero at the end. -/
theorem make_rd (p : Bool) (v n c : Nat) (A : Option Addr) (w : World) (hn : ln v = n) (h6 : n ≤ 1048576) (hc : n ≤ c) (hA : RdS w A (vi (nd v))) :
    Calls Tryz.prog 105 #[.bool p, .slice A n c] w (MadeB w.heap.size (p && decide (cap60 v ≠ [])) (cap60 v) w) :=
  make_any p (cap60 v) A n c w (fun W hb => cap_rd v n c A W hn h6 hc (hA.below hb)) (by have := cap60_len v; omega)
/-- 'l03Make' of a row of the call's own. -/
theorem make_row (p : Bool) (B T n c : Nat) (A : Option Addr) (w : World) (hT : ln T ≤ n) (h6 : n ≤ 1048576) (hc : n ≤ c) (ho : OwnS B w A (vi (row n T))) :
    Calls Tryz.prog 105 #[.bool p, .slice A n c] w (MadeB w.heap.size (p && decide (cap60 T ≠ [])) (cap60 T) w) :=
  make_any p (cap60 T) A n c w (fun W hb => (cap_any B n c T A W (ho.below hb) hT hc h6).mono fun e w' h => h.capR) (by have := cap60_len T; omega)

set_option maxHeartbeats 800000 in
theorem spec_bok (p : Bool) (l : List Int) (A : Option Addr) (n c : Nat) (w : World) (hl : l.length = n) (hn : n ≤ 9223372036854775807) (hA : RdS w A (vi l)) :
    Calls Tryz.prog 101 #[.agg #[.bool p, .slice A n c]] w fun e w' => e = .returned (.bool (okB p l)) ∧ Below w.heap.size w w' := by
  have H := Lib.hid (fun W h => spec_ok l A n c W hl hn h)
  by_cases hk : ok l = true
  · rw [hk] at H
    cases p
    · have HO : Hid (okB false l = true) := Lib.hid (by unfold okB; rw [hk]; rfl)
      clear hk hl
      go_enter Tryz.func101, Tryz.ntmps101
      go_wp2_with fail
      refine (H.out _ (hA.below (ba1 _ _))).mono ?_
      rintro e w1 ⟨rfl, rfl⟩
      go_wp2
      go_ret
      exact ⟨ret_bool' HO.out.symm, ba1 _ _⟩
    · by_cases h0 : 0 < n
      · have HO : Hid (okB true l = true) := Lib.hid (by unfold okB; rw [hk, decide_eq_false (by rintro rfl; simp at hl; omega)]; rfl)
        clear hk hl
        go_enter Tryz.func101, Tryz.ntmps101
        go_wp2_with fail
        refine (H.out _ (hA.below (ba1 _ _))).mono ?_
        rintro e w1 ⟨rfl, rfl⟩
        go_wp2
        go_ret
        exact ⟨ret_bool' HO.out.symm, ba1 _ _⟩
      · have HO : Hid (okB true l = false) := Lib.hid (by unfold okB; rw [hk, decide_eq_true (List.eq_nil_of_length_eq_zero (by omega))]; rfl)
        clear hk hl
        go_enter Tryz.func101, Tryz.ntmps101
        go_wp2_with fail
        refine (H.out _ (hA.below (ba1 _ _))).mono ?_
        rintro e w1 ⟨rfl, rfl⟩
        go_wp2
        go_ret
        exact ⟨ret_bool' HO.out.symm, ba1 _ _⟩
  · have hk' : ok l = false := by simpa using hk
    rw [hk'] at H
    rw [okB_no hk']
    clear hk hk' hl
    go_enter Tryz.func101, Tryz.ntmps101
    go_wp2_with fail
    refine (H.out _ (hA.below (ba1 _ _))).mono ?_
    rintro e w1 ⟨rfl, rfl⟩
    go_wp2
    go_ret
    exact ⟨rfl, ba1 _ _⟩
end Go.Proofs.YtennekieiioilaaGreat

namespace Go.Proofs.YtennekieiioilaaGreat
open Go.ChangeShapes Go.WideShapes Go.ChangeAt Go.RowKit
open Go.ChangeMaps (open_string shut_string)
set_option linter.unusedVariables false
set_option linter.unusedSimpArgs false
set_option maxRecDepth 4000

set_option maxHeartbeats 1000000 in
theorem ladd_same (p : Bool) (a b : Nat) (A D : Option Addr) (n c n' d : Nat) (w : World) (hn : ln a = n) (hn' : ln b = n') (h60 : n ≤ 60) (h60' : n' ≤ 60) (hA : RdS w A (vi (nd a))) (hD : RdS w D (vi (nd b))) :
    Calls Tryz.prog 112 #[.agg #[.bool p, .slice A n c], .agg #[.bool p, .slice D n' d]] w (MadeB w.heap.size (p && decide (cap60 (a + b) ≠ [])) (cap60 (a + b)) w) := by
  have HS := Lib.hid (fun W h h' => spec_l02Add a b A D n c n' d W hn hn' h60 h60' h h')
  have HB := Lib.hid (fun B K A c W (h1 : K ≤ c) (h2 : K ≤ 1048576) (h3 : ln (a + b) ≤ K) (h4 : OwnS B W A (vi (row K ((a + b : Nat) : Int)))) => make_row p B (a + b) K c A W h3 h2 h1 h4)
  have HR : Hid (∀ W, Below w.heap.size w W → RdS W A (vi (nd a)) ∧ RdS W D (vi (nd b))) := Lib.hid (fun W hb => ⟨hA.below hb, hD.below hb⟩)
  clear hn hn' hA hD
  generalize cap60 (a + b) = L at HB ⊢
  generalize (p && decide (L ≠ [])) = t at HB ⊢
  go_enter Tryz.func112, Tryz.ntmps112
  go_wp2_with fail
  generalize hW : ((w.alloc (.cells #[.bool p, .slice A n c] 28)).alloc (.cells #[.bool p, .slice D n' d] 28)).alloc (.cells #[.bool false, .slice none 0 0] 28) = W3
  obtain ⟨k0, k1, k2, k3, kt, kb⟩ := boxes3 _ _ _ _ _ _ _ _ _ _ _ hW
  clear hW
  obtain ⟨r, hr⟩ : ∃ r, r = w.heap.size + 1 + 1 := ⟨_, rfl⟩
  rw [← hr] at kt ⊢
  have hr1 : r ≠ w.heap.size := by omega
  have hr2 : r ≠ w.heap.size + 1 := by omega
  have hr3 : w.heap.size ≤ r := by omega
  clear hr
  go_region_held3 (fun w' => w'.cell? ⟨w.heap.size, 0, none⟩ = some (.bool p) ∧ w'.cell? ⟨w.heap.size, 1, none⟩ = some (.slice A n c) ∧ w'.cell? ⟨w.heap.size + 1, 0, none⟩ = some (.bool p) ∧ w'.cell? ⟨w.heap.size + 1, 1, none⟩ = some (.slice D n' d) ∧ Two w' r ∧ Below w.heap.size w w')
    (first | (exact ⟨k0, k1, k2, k3, kt, kb.drew⟩) | (go_split_ands; exact kept4 (by assumption) (by assumption) (by assumption) (by assumption) (by assumption) (by assumption) hbc) | (go_split_ands; exact put4 _ _ (by assumption) (by assumption) (by assumption) (by assumption) (by assumption) (by assumption) hr3 hr1 hr1 hr2 hr2))
    (first | (go_at_call 132; go_split_ands; refine (HS.out _ (HR.out _ (by assumption)).1 (HR.out _ (by assumption)).2).mono ?_; rintro e w5 ⟨A5, c5, K5, rfl, hc5, hcm5, hK5, hT5, hO5, hbc⟩) | (go_at_call 105; go_split_ands; refine (HB.out _ _ _ _ _ hc5 hK5 hT5 hO5).mono ?_; rintro e w6 ⟨A7, c7, rfl, hc7, hO7, hbc⟩; replace hO7 := hO7.more (Two.lt (by assumption)); obtain ⟨u0, u1, t1, t2, t3, t4⟩ := Two.below (by assumption) hbc))
  all_goals
    have hfin := (‹_ ∧ _ ∧ _ ∧ _ ∧ _ ∧ Below w.heap.size w _›).2.2.2.2.2
    go_wp2
    exact bodyPost_ret (v := .agg #[.bool t, .slice A7 L.length c7]) (by simp [results, Tryz.results112, go_sem, t1, t2]) rfl ⟨A7, c7, rfl, hc7, ((hO7.put (Nat.lt_succ_self _) _).put (Nat.lt_succ_self _) _).more (Nat.le_succ_of_le hr3), hfin⟩

set_option maxHeartbeats 1000000 in
theorem ladd_geq (p q : Bool) (a b : Nat) (A D : Option Addr) (n c n' d : Nat) (w : World) (hpq : (p == q) = false) (hab : b ≤ a) (hn : ln a = n) (hn' : ln b = n') (h60 : n ≤ 60) (h60' : n' ≤ 60) (hA : RdS w A (vi (nd a))) (hD : RdS w D (vi (nd b))) :
    Calls Tryz.prog 112 #[.agg #[.bool p, .slice A n c], .agg #[.bool q, .slice D n' d]] w (MadeB w.heap.size (p && decide (cap60 (a - b) ≠ [])) (cap60 (a - b)) w) := by
  have HC := Lib.hid (fun W h h' => spec_cmp a b A D n c n' d W hn hn' (by omega) (by omega) h h')
  have hv : 0 ≤ cmpN a b := by
    rcases Nat.lt_or_ge b a with h | h
    · rw [cmpN_gt h]; decide
    · rw [cmpN_eq (by omega)]; decide
  generalize cmpN a b = v at HC hv
  have HS := Lib.hid (fun W h h' => spec_l02Sub a b A D n c n' d W hn hn' hab (by omega) (by omega) h h')
  have HB := Lib.hid (fun A c W (h1 : (nd (a - b)).length ≤ c) (h2 : RdS W A (vi (nd (a - b)))) => make_rd p (a - b) (nd (a - b)).length c A W (by rw [nd_length]) (by rw [nd_length]; have := ln_mono (show a - b ≤ a by omega); omega) h1 h2)
  have HR : Hid (∀ W, Below w.heap.size w W → RdS W A (vi (nd a)) ∧ RdS W D (vi (nd b))) := Lib.hid (fun W hb => ⟨hA.below hb, hD.below hb⟩)
  clear hn hn' hA hD
  generalize cap60 (a - b) = L at HB ⊢
  generalize (p && decide (L ≠ [])) = t at HB ⊢
  go_enter Tryz.func112, Tryz.ntmps112
  go_wp2_with fail
  generalize hW : ((w.alloc (.cells #[.bool p, .slice A n c] 28)).alloc (.cells #[.bool q, .slice D n' d] 28)).alloc (.cells #[.bool false, .slice none 0 0] 28) = W3
  obtain ⟨k0, k1, k2, k3, kt, kb⟩ := boxes3 _ _ _ _ _ _ _ _ _ _ _ hW
  clear hW
  obtain ⟨r, hr⟩ : ∃ r, r = w.heap.size + 1 + 1 := ⟨_, rfl⟩
  rw [← hr] at kt ⊢
  have hr1 : r ≠ w.heap.size := by omega
  have hr2 : r ≠ w.heap.size + 1 := by omega
  have hr3 : w.heap.size ≤ r := by omega
  clear hr
  refine (HC.out _ (HR.out _ kb).1 (HR.out _ kb).2).mono ?_
  rintro e w4 ⟨rfl, hb4⟩
  replace k0 := cell_kept k0 hb4
  replace k1 := cell_kept k1 hb4
  replace k2 := cell_kept k2 hb4
  replace k3 := cell_kept k3 hb4
  replace kt := kt.below hb4
  replace kb := bt kb hb4
  clear hb4
  go_wp2_with fail
  go_region_held3 (fun w' => w'.cell? ⟨w.heap.size, 0, none⟩ = some (.bool p) ∧ w'.cell? ⟨w.heap.size, 1, none⟩ = some (.slice A n c) ∧ w'.cell? ⟨w.heap.size + 1, 0, none⟩ = some (.bool q) ∧ w'.cell? ⟨w.heap.size + 1, 1, none⟩ = some (.slice D n' d) ∧ Two w' r ∧ Below w.heap.size w w')
    (first | (exact ⟨k0, k1, k2, k3, kt, kb.drew⟩) | (go_split_ands; exact kept4 (by assumption) (by assumption) (by assumption) (by assumption) (by assumption) (by assumption) hbc) | (go_split_ands; exact put4 _ _ (by assumption) (by assumption) (by assumption) (by assumption) (by assumption) (by assumption) hr3 hr1 hr1 hr2 hr2))
    (first | (go_at_call 134; go_split_ands; refine (HS.out _ (HR.out _ (by assumption)).1 (HR.out _ (by assumption)).2).mono ?_; rintro e w5 ⟨A5, c5, rfl, hc5, hO5, hbc⟩) | (go_at_call 105; go_split_ands; refine (HB.out _ _ _ hc5 hO5.rd).mono ?_; rintro e w6 ⟨A7, c7, rfl, hc7, hO7, hbc⟩; replace hO7 := hO7.more (Two.lt (by assumption)); obtain ⟨u0, u1, t1, t2, t3, t4⟩ := Two.below (by assumption) hbc))
  all_goals
    have hfin := (‹_ ∧ _ ∧ _ ∧ _ ∧ _ ∧ Below w.heap.size w _›).2.2.2.2.2
    go_wp2
    exact bodyPost_ret (v := .agg #[.bool t, .slice A7 L.length c7]) (by simp [results, Tryz.results112, go_sem, t1, t2]) rfl ⟨A7, c7, rfl, hc7, ((hO7.put (Nat.lt_succ_self _) _).put (Nat.lt_succ_self _) _).more (Nat.le_succ_of_le hr3), hfin⟩

set_option maxHeartbeats 1000000 in
theorem ladd_less (p q : Bool) (a b : Nat) (A D : Option Addr) (n c n' d : Nat) (w : World) (hpq : (p == q) = false) (hab : a < b) (hn : ln a = n) (hn' : ln b = n') (h60 : n ≤ 60) (h60' : n' ≤ 60) (hA : RdS w A (vi (nd a))) (hD : RdS w D (vi (nd b))) :
    Calls Tryz.prog 112 #[.agg #[.bool p, .slice A n c], .agg #[.bool q, .slice D n' d]] w (MadeB w.heap.size (q && decide (cap60 (b - a) ≠ [])) (cap60 (b - a)) w) := by
  have HC := Lib.hid (fun W h h' => spec_cmp a b A D n c n' d W hn hn' (by omega) (by omega) h h')
  have hv : ¬ 0 ≤ cmpN a b := by rw [cmpN_lt hab]; decide
  generalize cmpN a b = v at HC hv
  have HS := Lib.hid (fun W h h' => spec_l02Sub b a D A n' d n c W hn' hn (by omega) (by omega) (by omega) h' h)
  have HB := Lib.hid (fun A c W (h1 : (nd (b - a)).length ≤ c) (h2 : RdS W A (vi (nd (b - a)))) => make_rd q (b - a) (nd (b - a)).length c A W (by rw [nd_length]) (by rw [nd_length]; have := ln_mono (show b - a ≤ b by omega); omega) h1 h2)
  have HR : Hid (∀ W, Below w.heap.size w W → RdS W A (vi (nd a)) ∧ RdS W D (vi (nd b))) := Lib.hid (fun W hb => ⟨hA.below hb, hD.below hb⟩)
  clear hn hn' hA hD
  generalize cap60 (b - a) = L at HB ⊢
  generalize (q && decide (L ≠ [])) = t at HB ⊢
  go_enter Tryz.func112, Tryz.ntmps112
  go_wp2_with fail
  generalize hW : ((w.alloc (.cells #[.bool p, .slice A n c] 28)).alloc (.cells #[.bool q, .slice D n' d] 28)).alloc (.cells #[.bool false, .slice none 0 0] 28) = W3
  obtain ⟨k0, k1, k2, k3, kt, kb⟩ := boxes3 _ _ _ _ _ _ _ _ _ _ _ hW
  clear hW
  obtain ⟨r, hr⟩ : ∃ r, r = w.heap.size + 1 + 1 := ⟨_, rfl⟩
  rw [← hr] at kt ⊢
  have hr1 : r ≠ w.heap.size := by omega
  have hr2 : r ≠ w.heap.size + 1 := by omega
  have hr3 : w.heap.size ≤ r := by omega
  clear hr
  refine (HC.out _ (HR.out _ kb).1 (HR.out _ kb).2).mono ?_
  rintro e w4 ⟨rfl, hb4⟩
  replace k0 := cell_kept k0 hb4
  replace k1 := cell_kept k1 hb4
  replace k2 := cell_kept k2 hb4
  replace k3 := cell_kept k3 hb4
  replace kt := kt.below hb4
  replace kb := bt kb hb4
  clear hb4
  go_wp2_with fail
  go_region_held3 (fun w' => w'.cell? ⟨w.heap.size, 0, none⟩ = some (.bool p) ∧ w'.cell? ⟨w.heap.size, 1, none⟩ = some (.slice A n c) ∧ w'.cell? ⟨w.heap.size + 1, 0, none⟩ = some (.bool q) ∧ w'.cell? ⟨w.heap.size + 1, 1, none⟩ = some (.slice D n' d) ∧ Two w' r ∧ Below w.heap.size w w')
    (first | (exact ⟨k0, k1, k2, k3, kt, kb.drew⟩) | (go_split_ands; exact kept4 (by assumption) (by assumption) (by assumption) (by assumption) (by assumption) (by assumption) hbc) | (go_split_ands; exact put4 _ _ (by assumption) (by assumption) (by assumption) (by assumption) (by assumption) (by assumption) hr3 hr1 hr1 hr2 hr2))
    (first | (go_at_call 134; go_split_ands; refine (HS.out _ (HR.out _ (by assumption)).1 (HR.out _ (by assumption)).2).mono ?_; rintro e w5 ⟨A5, c5, rfl, hc5, hO5, hbc⟩) | (go_at_call 105; go_split_ands; refine (HB.out _ _ _ hc5 hO5.rd).mono ?_; rintro e w6 ⟨A7, c7, rfl, hc7, hO7, hbc⟩; replace hO7 := hO7.more (Two.lt (by assumption)); obtain ⟨u0, u1, t1, t2, t3, t4⟩ := Two.below (by assumption) hbc))
  all_goals
    have hfin := (‹_ ∧ _ ∧ _ ∧ _ ∧ _ ∧ Below w.heap.size w _›).2.2.2.2.2
    go_wp2
    exact bodyPost_ret (v := .agg #[.bool t, .slice A7 L.length c7]) (by simp [results, Tryz.results112, go_sem, t1, t2]) rfl ⟨A7, c7, rfl, hc7, ((hO7.put (Nat.lt_succ_self _) _).put (Nat.lt_succ_self _) _).more (Nat.le_succ_of_le hr3), hfin⟩

theorem ladd_any (p q : Bool) (a b : Nat) (A D : Option Addr) (n c n' d : Nat) (w : World) (hn : ln a = n) (hn' : ln b = n') (h60 : n ≤ 60) (h60' : n' ≤ 60) (hA : RdS w A (vi (nd a))) (hD : RdS w D (vi (nd b))) :
    Calls Tryz.prog 112 #[.agg #[.bool p, .slice A n c], .agg #[.bool q, .slice D n' d]] w (MadeB w.heap.size (plusB p a q b && decide (cap60 (plusN p a q b) ≠ [])) (cap60 (plusN p a q b)) w) := by
  unfold plusB plusN
  by_cases hpq : p = q
  · subst hpq
    have h := ladd_same p a b A D n c n' d w hn hn' h60 h60' hA hD
    rw [if_pos rfl, if_pos rfl]
    exact h
  · have hq : (p == q) = false := by simpa using hpq
    by_cases hab : a < b
    · have h := ladd_less p q a b A D n c n' d w hq hab hn hn' h60 h60' hA hD
      rw [if_neg hpq, if_pos hab, if_neg hpq, if_pos hab]
      exact h
    · have h := ladd_geq p q a b A D n c n' d w hq (by omega) hn hn' h60 h60' hA hD
      rw [if_neg hpq, if_neg hab, if_neg hpq, if_neg hab]
      exact h
theorem ladd_z (x y : Int) (A D : Option Addr) (n c n' d : Nat) (w : World) (hn : ln x.natAbs = n) (hn' : ln y.natAbs = n') (h60 : n ≤ 60) (h60' : n' ≤ 60) (hA : RdS w A (vi (zm x))) (hD : RdS w D (vi (zm y))) :
    Calls Tryz.prog 112 #[.agg #[.bool (zn x), .slice A n c], .agg #[.bool (zn y), .slice D n' d]] w (MadeZ w.heap.size (czi (x + y)) w) := by
  have h := ladd_any (zn x) (zn y) x.natAbs y.natAbs A D n c n' d w hn hn' h60 h60' hA hD
  obtain ⟨e1, e2⟩ := cut_zn (plusB (zn x) x.natAbs (zn y) y.natAbs) (plusN (zn x) x.natAbs (zn y) y.natAbs)
  rw [plus_z] at e1 e2
  unfold MadeZ
  rw [← e1, ← e2]
  exact h

theorem zm_czi (z : Int) : (zm (czi z)).length ≤ 1048576 := by rw [zm_length]; have := czi_len z; omega
theorem unZ_len (F : Int → Int) (p : Bool) (l : List Int) : (zm (unZ (fun x => czi (F x)) p l)).length ≤ 1048576 := by
  unfold unZ
  split
  · exact zm_czi _
  · rw [zm_zero]; simp
theorem binZ_len (F : Int → Int → Int) (p q : Bool) (l m : List Int) : (zm (binZ (fun x y => czi (F x y)) p l q m)).length ≤ 1048576 := by
  unfold binZ
  split
  · exact zm_czi _
  · rw [zm_zero]; simp
end Go.Proofs.YtennekieiioilaaGreat

namespace Go.Proofs.YtennekieiioilaaGreat
open Go.ChangeShapes Go.WideShapes Go.ChangeAt Go.RowKit
open Go.ChangeMaps (open_string shut_string)
set_option linter.unusedVariables false
set_option linter.unusedSimpArgs false
set_option maxRecDepth 4000

/-- The answer of 'BigIntToInt'. -/
def tiV (p : Bool) (l : List Int) : Int := if okB p l then (if p then -(toV l) else toV l) else 0
def tiB (p : Bool) (l : List Int) : Bool := okB p l && toB l
theorem toV_range (l : List Int) : 0 ≤ toV l ∧ toV l ≤ 9223372036854775807 := by
  unfold toV
  by_cases h : (ok l && decide (val l ≤ 9223372036854775807)) = true
  · rw [if_pos h]
    rw [Bool.and_eq_true, decide_eq_true_eq] at h
    omega
  · rw [if_neg h]; omega
theorem toV_zero {l : List Int} (h : toB l = false) : toV l = 0 := by
  unfold toV
  unfold toB at h
  rw [h]
  rfl

end Go.Proofs.YtennekieiioilaaGreat

namespace Go.Proofs.YtennekieiioilaaGreat
open Go.ChangeShapes Go.WideShapes Go.ChangeAt Go.RowKit
open Go.ChangeMaps (open_string shut_string)
set_option linter.unusedVariables false
set_option linter.unusedSimpArgs false
set_option maxRecDepth 4000

theorem nd_min : nd 9223372036854775808 = [854775808, 223372036, 9] ∧ ln 9223372036854775808 = 3 := by
  have h3 : ln 9223372036854775808 = 3 := by
    rw [ln_pos (by decide), show 9223372036854775808 / 1000000000 = 9223372036 by decide, ln_pos (by decide), show 9223372036 / 1000000000 = 9 by decide, ln_pos (by decide), show 9 / 1000000000 = 0 by decide, ln_zero]
  refine ⟨?_, h3⟩
  unfold nd
  rw [h3]
  decide
theorem ln_word {N : Nat} (h : N ≤ 9223372036854775808) : ln N ≤ 3 := by have := ln_mono h; rw [nd_min.2] at this; exact this
/-- A sign and a magnitude that are x's. -/
theorem made_z {B : Nat} {p : Bool} {a : Nat} {x : Int} {w w' : World} {e : Ending} (h : MadeB B (p && decide (cap60 a ≠ [])) (cap60 a) w e w') (ha : ln a ≤ 60) (hx : (if p then -(a : Int) else (a : Int)) = x) : MadeZ B x w e w' := by
  obtain ⟨e1, e2⟩ := cut_zn p a
  rw [e1, e2, hx] at h
  have hn : x.natAbs = a := by cases p <;> simp at hx <;> omega
  rw [czi_in (by rw [hn]; exact ha)] at h
  exact h

set_option maxHeartbeats 1000000 in
theorem spec_bof_pos (x : Int) (w : World) (h0 : 0 ≤ x) (h1 : x ≤ 9223372036854775807) :
    Calls Tryz.prog 77 #[.int .i64 x] w (MadeB w.heap.size (false && decide (cap60 (x.natAbs) ≠ [])) (cap60 (x.natAbs)) w) := by
  have HN := Lib.hid (fun W => spec_natOf_int x W h1)
  rw [show x.toNat = x.natAbs by omega] at HN
  have HM := Lib.hid (fun A c W (h1 : (nd (x.natAbs)).length ≤ c) (h2 : RdS W A (vi (nd (x.natAbs)))) => make_rd false (x.natAbs) (nd (x.natAbs)).length c A W (by rw [nd_length]) (by rw [nd_length]; have := ln_word (show (x.natAbs) ≤ 9223372036854775808 by omega); omega) h1 h2)
  generalize cap60 (x.natAbs) = L at HM ⊢
  generalize (false && decide (L ≠ [])) = t at HM ⊢
  generalize nd (x.natAbs) = M at HN HM
  have hq : (x == -9223372036854775808) = false := by rw [beq_eq_false_iff_ne]; omega
  have hn : ¬ x < 0 := by omega
  go_enter Tryz.func77, Tryz.ntmps77
  go_wp2_with fail
  have kt := boxT w 28 (.bool false) (.slice none 0 0)
  have kb := ba1 w (.cells #[.bool false, .slice none 0 0] 28)
  generalize w.alloc (.cells #[.bool false, .slice none 0 0] 28) = W1 at kt kb ⊢
  refine (HN.out _).mono ?_
  rintro e w4 ⟨A4, c4, rfl, hc4, hO4, hb4⟩
  replace kt := kt.below hb4
  replace kb := bt kb hb4
  go_wp2_with fail
  refine (HM.out _ _ _ hc4 hO4.rd).mono ?_
  rintro e w6 ⟨A7, c7, rfl, hc7, hO7, hbc⟩
  have hlt := kt.lt
  obtain ⟨u0, u1, t1, t2, t3, t4⟩ := kt.below hbc
  have hfin := bt kb hbc
  go_wp2
  exact bodyPost_ret (v := .agg #[.bool t, .slice A7 L.length c7]) (by simp [results, Tryz.results77, go_sem, t1, t2]) rfl ⟨A7, c7, rfl, hc7, ((hO7.put (by omega) _).put (by omega) _).more (by omega), below_put (below_put hfin (by omega) _) (by omega) _⟩

set_option maxHeartbeats 1000000 in
theorem spec_bof_neg (x : Int) (w : World) (h0 : x < 0) (h1 : -9223372036854775808 < x) :
    Calls Tryz.prog 77 #[.int .i64 x] w (MadeB w.heap.size (true && decide (cap60 (x.natAbs) ≠ [])) (cap60 (x.natAbs)) w) := by
  have HN := Lib.hid (fun W => spec_natOf_int (-x) W (by omega))
  rw [show (-x).toNat = x.natAbs by omega] at HN
  have HM := Lib.hid (fun A c W (h1 : (nd (x.natAbs)).length ≤ c) (h2 : RdS W A (vi (nd (x.natAbs)))) => make_rd true (x.natAbs) (nd (x.natAbs)).length c A W (by rw [nd_length]) (by rw [nd_length]; have := ln_word (show (x.natAbs) ≤ 9223372036854775808 by omega); omega) h1 h2)
  generalize cap60 (x.natAbs) = L at HM ⊢
  generalize (true && decide (L ≠ [])) = t at HM ⊢
  generalize nd (x.natAbs) = M at HN HM
  have hq : (x == -9223372036854775808) = false := by rw [beq_eq_false_iff_ne]; omega
  go_enter Tryz.func77, Tryz.ntmps77
  go_wp2_with fail
  have kt := boxT w 28 (.bool false) (.slice none 0 0)
  have kb := ba1 w (.cells #[.bool false, .slice none 0 0] 28)
  generalize w.alloc (.cells #[.bool false, .slice none 0 0] 28) = W1 at kt kb ⊢
  refine (HN.out _).mono ?_
  rintro e w4 ⟨A4, c4, rfl, hc4, hO4, hb4⟩
  replace kt := kt.below hb4
  replace kb := bt kb hb4
  go_wp2_with fail
  refine (HM.out _ _ _ hc4 hO4.rd).mono ?_
  rintro e w6 ⟨A7, c7, rfl, hc7, hO7, hbc⟩
  have hlt := kt.lt
  obtain ⟨u0, u1, t1, t2, t3, t4⟩ := kt.below hbc
  have hfin := bt kb hbc
  go_wp2
  exact bodyPost_ret (v := .agg #[.bool t, .slice A7 L.length c7]) (by simp [results, Tryz.results77, go_sem, t1, t2]) rfl ⟨A7, c7, rfl, hc7, ((hO7.put (by omega) _).put (by omega) _).more (by omega), below_put (below_put hfin (by omega) _) (by omega) _⟩

set_option maxHeartbeats 1000000 in
theorem spec_bof_min (x : Int) (hq : (x == -9223372036854775808) = true) (N : Nat) (hN : nd N = [854775808, 223372036, 9]) (h3 : ln N = 3) (w : World) :
    Calls Tryz.prog 77 #[.int .i64 x] w (MadeB w.heap.size (true && decide (cap60 N ≠ [])) (cap60 N) w) := by
  have HM := Lib.hid (fun A c W (h1 : 3 ≤ c) (h2 : RdS W A (vi [854775808, 223372036, 9])) => make_rd true N 3 c A W h3 (by omega) h1 (by rw [hN]; exact h2))
  clear hN h3
  generalize cap60 N = L at HM ⊢
  generalize (true && decide (L ≠ [])) = t at HM ⊢
  go_enter Tryz.func77, Tryz.ntmps77
  go_wp2_with fail
  have kt := boxT w 28 (.bool false) (.slice none 0 0)
  have kb := ba1 w (.cells #[.bool false, .slice none 0 0] 28)
  have hsz := sz1 w (.cells #[.bool false, .slice none 0 0] 28)
  generalize w.alloc (.cells #[.bool false, .slice none 0 0] 28) = W1 at kt kb hsz ⊢
  have hB : Blk (W1.alloc (.cells #[.int .i64 854775808, .int .i64 223372036, .int .i64 9] 3)) W1.heap.size [854775808, 223372036, 9] := heap_alloc_new W1 _
  have hlt0 := kt.lt
  replace kt := kt.below (ba1 W1 (.cells #[.int .i64 854775808, .int .i64 223372036, .int .i64 9] 3))
  replace kb := bt kb (ba1 W1 (.cells #[.int .i64 854775808, .int .i64 223372036, .int .i64 9] 3))
  have hO := hB.own (Nat.le_refl _)
  replace hO : RdS _ _ _ := hO.rd
  clear hB
  generalize W1.alloc (.cells #[.int .i64 854775808, .int .i64 223372036, .int .i64 9] 3) = W2 at kt kb hO ⊢
  rw [hsz] at hO
  refine (HM.out (some ⟨w.heap.size + 1, 0, none⟩) 3 W2 (by omega) hO).mono ?_
  rintro e w6 ⟨A7, c7, rfl, hc7, hO7, hbc⟩
  have hlt := kt.lt
  obtain ⟨u0, u1, t1, t2, t3, t4⟩ := kt.below hbc
  have hfin := bt kb hbc
  go_wp2
  exact bodyPost_ret (v := .agg #[.bool t, .slice A7 L.length c7]) (by simp [results, Tryz.results77, go_sem, t1, t2]) rfl ⟨A7, c7, rfl, hc7, ((hO7.put (by omega) _).put (by omega) _).more (by omega), below_put (below_put hfin (by omega) _) (by omega) _⟩

theorem min_abs (x : Int) (hx : x = -9223372036854775808) : ∃ N : Nat, nd N = [854775808, 223372036, 9] ∧ ln N = 3 ∧ -(N : Int) = x := ⟨9223372036854775808, nd_min.1, nd_min.2, by rw [hx]; rfl⟩
theorem spec_bof (x : Int) (w : World) (h0 : -9223372036854775808 ≤ x) (h1 : x ≤ 9223372036854775807) :
    Calls Tryz.prog 77 #[.int .i64 x] w (MadeZ w.heap.size x w) := by
  by_cases hm : x = -9223372036854775808
  · obtain ⟨N, h3, h4, h5⟩ := min_abs x hm
    have h := spec_bof_min x (by rw [hm]; rfl) N h3 h4 w
    exact h.mono fun e w' h => made_z h (by omega) (by simpa using h5)
  · have hl := ln_word (show x.natAbs ≤ 9223372036854775808 by omega)
    by_cases hn : x < 0
    · exact (spec_bof_neg x w hn (by omega)).mono fun e w' h => made_z h (by omega) (by simp; omega)
    · exact (spec_bof_pos x w (by omega) h1).mono fun e w' h => made_z h (by omega) (by simp; omega)

set_option maxHeartbeats 1000000 in
theorem impl_bof_pos (x : Int) (w : World) (h0 : 0 ≤ x) (h1 : x ≤ 9223372036854775807) :
    Calls Tryz.prog 82 #[.int .i64 x] w (MadeB w.heap.size (false && decide (cap60 x.natAbs ≠ [])) (cap60 x.natAbs) w) := by
  have HN := Lib.hid (fun W => impl_natOf_int x W h1)
  rw [show x.toNat = x.natAbs by omega] at HN
  have hL : (nd x.natAbs).length ≤ 1048576 := by rw [nd_length]; have := ln_word (show x.natAbs ≤ 9223372036854775808 by omega); omega
  rw [cap60_yes' (by have := ln_word (show x.natAbs ≤ 9223372036854775808 by omega); omega)]
  generalize nd x.natAbs = L at HN hL ⊢
  have HB := Lib.hid (fun B A c W (hc : L.length ≤ c) (ho : OwnS B W A (vi L)) => bigInt_any B false L A L.length c W rfl hL hc ho)
  generalize (false && decide (L ≠ [])) = t at HB ⊢
  go_enter Tryz.func82, Tryz.ntmps82
  go_wp2_with fail
  have kt := boxT w 28 (.bool false) (.slice none 0 0)
  have kb := ba1 w (.cells #[.bool false, .slice none 0 0] 28)
  generalize w.alloc (.cells #[.bool false, .slice none 0 0] 28) = W1 at kt kb ⊢
  have hltB := kt.lt
  refine (HN.out _).mono ?_
  rintro e w4 ⟨A4, c4, rfl, hc4, hO4, hb4⟩
  replace kt := kt.below hb4
  replace kb := bt kb hb4
  go_wp2_with fail
  refine (HB.out _ _ _ _ hc4 hO4).mono ?_
  rintro e w6 ⟨A7, c7, rfl, hc7, hO7, hbc⟩
  have hlt := kt.lt
  obtain ⟨u0, u1, t1, t2, t3, t4⟩ := kt.below hbc
  have hfin := bt kb hbc
  go_wp2
  exact bodyPost_ret (v := .agg #[.bool t, .slice A7 L.length c7]) (by simp [results, Tryz.results82, go_sem, t1, t2]) rfl ⟨A7, c7, rfl, hc7, ((hO7.put (by omega) _).put (by omega) _).more (by omega), below_put (below_put hfin (by omega) _) (by omega) _⟩

set_option maxHeartbeats 1000000 in
theorem impl_bof_neg (x : Int) (w : World) (h0 : x < 0) (h1 : -9223372036854775808 ≤ x) :
    Calls Tryz.prog 82 #[.int .i64 x] w (MadeB w.heap.size (true && decide (cap60 x.natAbs ≠ [])) (cap60 x.natAbs) w) := by
  have HN := Lib.hid (fun W => impl_natOf_int (-(x + 1)) W (by omega))
  rw [show (-(x + 1)).toNat = x.natAbs - 1 by omega] at HN
  have HO := Lib.hid (fun W => impl_natOf_int 1 W (by omega))
  rw [show (1 : Int).toNat = 1 by decide] at HO
  have hl1 := ln_word (show x.natAbs - 1 ≤ 9223372036854775808 by omega)
  have hl2 := ln_word (show 1 ≤ 9223372036854775808 by omega)
  have HS := Lib.hid (fun A c D d W h h' => sum_any (x.natAbs - 1) 1 A D (nd (x.natAbs - 1)).length c (nd 1).length d W (by rw [nd_length]) (by rw [nd_length]) (by rw [nd_length]; omega) (by rw [nd_length]; omega) h h')
  rw [show x.natAbs - 1 + 1 = x.natAbs by omega] at HS
  have hL : (cap60 x.natAbs).length ≤ 1048576 := by have := cap60_len' x.natAbs; omega
  generalize cap60 x.natAbs = L at HS hL ⊢
  generalize nd (x.natAbs - 1) = M at HN HS
  generalize nd 1 = K at HO HS
  clear hl1 hl2
  have HB := Lib.hid (fun B A c W (hc : L.length ≤ c) (ho : OwnS B W A (vi L)) => bigInt_any B true L A L.length c W rfl hL hc ho)
  generalize (true && decide (L ≠ [])) = t at HB ⊢
  go_enter Tryz.func82, Tryz.ntmps82
  go_wp2_with fail
  have kt := boxT w 28 (.bool false) (.slice none 0 0)
  have kb := ba1 w (.cells #[.bool false, .slice none 0 0] 28)
  generalize w.alloc (.cells #[.bool false, .slice none 0 0] 28) = W1 at kt kb ⊢
  refine (HN.out _).mono ?_
  rintro e w4 ⟨A4, c4, rfl, hc4, hO4, hb4⟩
  replace kt := kt.below hb4
  replace kb := bt kb hb4
  go_wp2_with fail
  refine (HO.out _).mono ?_
  rintro e w5 ⟨A5, c5, rfl, hc5, hO5, hb5⟩
  replace kt := kt.below hb5
  replace kb := bt kb hb5
  replace hO4 := hO4.below hb5
  go_wp2_with fail
  refine (HS.out _ _ _ _ _ hO4.rd hO5.rd).mono ?_
  rintro e w6 ⟨A6, c6, rfl, hc6, hO6, hb6⟩
  have hlt0 := kt.lt
  replace kt := kt.below hb6
  replace kb := bt kb hb6
  go_wp2_with fail
  refine (HB.out _ _ _ _ hc6 hO6).mono ?_
  rintro e w7 ⟨A7, c7, rfl, hc7, hO7, hbc⟩
  have hlt := kt.lt
  obtain ⟨u0, u1, t1, t2, t3, t4⟩ := kt.below hbc
  have hfin := bt kb hbc
  go_wp2
  exact bodyPost_ret (v := .agg #[.bool t, .slice A7 L.length c7]) (by simp [results, Tryz.results82, go_sem, t1, t2]) rfl ⟨A7, c7, rfl, hc7, ((hO7.put (by omega) _).put (by omega) _).more (by omega), below_put (below_put hfin (by omega) _) (by omega) _⟩

theorem impl_bof (x : Int) (w : World) (h0 : -9223372036854775808 ≤ x) (h1 : x ≤ 9223372036854775807) :
    Calls Tryz.prog 82 #[.int .i64 x] w (MadeZ w.heap.size x w) := by
  have hl := ln_word (show x.natAbs ≤ 9223372036854775808 by omega)
  by_cases hn : x < 0
  · exact (impl_bof_neg x w hn h0).mono fun e w' h => made_z h (by omega) (by simp; omega)
  · exact (impl_bof_pos x w (by omega) h1).mono fun e w' h => made_z h (by omega) (by simp; omega)
theorem zm_word {x : Int} (h0 : -9223372036854775808 ≤ x) (h1 : x ≤ 9223372036854775807) : (zm x).length ≤ 1048576 := by rw [zm_length]; have := ln_word (show x.natAbs ≤ 9223372036854775808 by omega); omega
end Go.Proofs.YtennekieiioilaaGreat

namespace Go.Proofs.YtennekieiioilaaGreat
open Go.ChangeShapes Go.WideShapes Go.ChangeAt Go.RowKit
open Go.ChangeMaps (open_string shut_string)
set_option linter.unusedVariables false
set_option linter.unusedSimpArgs false
set_option maxRecDepth 4000

theorem boxTd (w : World) (T : TypeId) (x y : Value) : Two (w.alloc (.cells #[x, y] T)).drew w.heap.size := boxT w T x y
theorem lt_put2 {W : World} {g : Nat} {x u u' : Value} (h : W.cell? ⟨g, 0, none⟩ = some x) : g < ((W.setCell ⟨g, 0, none⟩ u).setCell ⟨g, 1, none⟩ u').heap.size := by
  have h1 := World.block_lt_of_cell? W _ h
  simpa [World.setCell] using h1
theorem eqBig_same (p : Bool) (l : List Int) (A D : Option Addr) (n c d : Nat) (w : World) (hl : l.length = n) (hn : n ≤ 4611686018427387904) (hA : RdS w A (vi l)) (hD : RdS w D (vi l)) :
    Calls Tryz.prog 32 #[.agg #[.bool p, .slice A n c], .agg #[.bool p, .slice D n d]] w fun e w' => e = .returned (.bool true) ∧ Below w.heap.size w w' :=
  (eqBig_any p p l l A D n n c d w hl hl hn hn hA hD).mono fun e w' ⟨he, hb⟩ => ⟨by rw [he]; simp, hb⟩

end Go.Proofs.YtennekieiioilaaGreat

namespace Go.Proofs.YtennekieiioilaaGreat
open Go.ChangeShapes Go.WideShapes Go.ChangeAt Go.RowKit Go.Joins
open Go.ChangeMaps (open_string shut_string)
set_option linter.unusedVariables false
set_option linter.unusedSimpArgs false
set_option maxRecDepth 10000

/-- A cell that holds a slice of ints, read. -/
theorem openedC {H : Type} {enc : TypeId × Value → H} {W : World} {fuel : Nat} {v : Value} {x : DataW H × List MemPlace}
    (hf : DataW.trod enc Tryz.prog W 0 (fun _ => true) true fuel 26 [v] = some x) :
    ∃ (A : Option Addr) (n c : Nat) (l : List Int), v = .slice A n c ∧ l.length = n ∧ n ≤ 9223372036854775807 ∧ RdS W A (vi l) := by
  have hv : ∃ A n c, v = .slice A n c := by
    rcases open_ints Tryz.underlying26 Tryz.underlying3 cellsInt hf with ⟨hcs, hx⟩ | ⟨a, len', cap', zs, hcs, _⟩
    · injection hcs with h1 _; exact ⟨_, _, _, h1⟩
    · injection hcs with h1 _; exact ⟨_, _, _, h1⟩
  obtain ⟨A, n, c, rfl⟩ := hv
  obtain ⟨d, p⟩ := x
  obtain ⟨l, h1, h2, h3⟩ := opened (a0 := A) (len := n) (cap := c) (d := d) (p := p) (by simpa [Value.cells] using hf)
  exact ⟨A, n, c, l, rfl, h1, h2, h3⟩
theorem cellsBig : Tryz.prog.cellsOf 63 = 2 := by kernel_rfl
/-- A struct of a sign and a slice of ints, read. -/
theorem openB {H : Type} {enc : TypeId × Value → H} {W : World} {base : Nat} {v : Value} {d : DataW H} {p : List MemPlace}
    (hv : Value.okWide Tryz.prog W .any base 63 v) (h : DataW.Trod enc Tryz.prog W 0 (fun _ => true) true 63 v d p) :
    ∃ (s : Bool) (A : Option Addr) (n c : Nat) (l : List Int), v = .agg #[.bool s, .slice A n c] ∧ l.length = n ∧ n ≤ 9223372036854775807 ∧ RdS W A (vi l) := by
  obtain ⟨c0, c1, y0, y1, m, rfl, _, _, hy0, hy1⟩ := open_agg2 Tryz.underlying63 (by kernel_rfl) cellsBig hv h
  obtain ⟨b, e0, _⟩ := DataW.trod_bool Tryz.underlying4 hy0
  injection e0 with e0 _
  subst e0
  obtain ⟨A, n, c, l, rfl, h1, h2, h3⟩ := openedC hy1
  exact ⟨b, A, n, c, l, rfl, h1, h2, h3⟩
end Go.Proofs.YtennekieiioilaaGreat

namespace Go.Proofs.YtennekieiioilaaGreat
open Go.ChangeShapes Go.WideShapes Go.ChangeAt Go.RowKit
open Go.ChangeMaps (open_string shut_string)
set_option linter.unusedVariables false
set_option linter.unusedSimpArgs false

/-- Both parts have at most 24 limbs. -/
def Fit (r : Rat) : Prop := ln r.num.natAbs ≤ 24 ∧ ln r.den ≤ 24
instance (r : Rat) : Decidable (Fit r) := inferInstanceAs (Decidable (_ ∧ _))
/-- A fraction, or none where it would be too large. -/
def cutQ (r : Rat) : Option Rat := if Fit r then some r else none
/-- The sign, the numerator's limbs and the denominator's: none is the zero value of the type. -/
def qn : Option Rat → Bool
  | none => false
  | some r => zn r.num
def ql : Option Rat → List Int
  | none => []
  | some r => zm r.num
def qd : Option Rat → List Int
  | none => []
  | some r => nd r.den
/-- Whether the three are a fraction's. -/
def okR (p : Bool) (l m : List Int) : Bool := okB p l && ok m && decide (m ≠ []) && decide (m.length ≤ 24) && decide (l.length ≤ 24) && decide (Nat.gcd (val l) (val m) = 1)
def valQ (p : Bool) (l m : List Int) : Option Rat := if okR p l m then some (mkRat (valB p l) (val m)) else none
theorem cutQ_in {r : Rat} (h : Fit r) : cutQ r = some r := if_pos h
theorem cutQ_out {r : Rat} (h : ¬ Fit r) : cutQ r = none := if_neg h
theorem cutQ_fit {r s : Rat} (h : cutQ r = some s) : Fit s := by
  by_cases hf : Fit r
  · rw [cutQ_in hf] at h; injection h with h; rw [← h]; exact hf
  · rw [cutQ_out hf] at h; cases h
theorem okR_q {p : Bool} {l m : List Int} (h : okR p l m = true) : ∃ r : Rat, p = zn r.num ∧ l = zm r.num ∧ m = nd r.den ∧ Fit r := by
  unfold okR at h
  simp only [Bool.and_eq_true, decide_eq_true_eq] at h
  obtain ⟨⟨⟨⟨⟨h1, h2⟩, h3⟩, h4⟩, h5⟩, h6⟩ := h
  obtain ⟨z, rfl, rfl, hz⟩ := okB_z h1
  obtain ⟨d, rfl, hd⟩ := ok_nd h2
  rw [nd_length] at h4
  rw [zm_length] at h5
  have hv : val (zm z) = z.natAbs := by unfold zm; rw [val_nd]
  rw [hv, val_nd] at h6
  have hd0 : d ≠ 0 := fun e => h3 (by rw [e, nd_zero])
  exact ⟨⟨z, d, hd0, h6⟩, rfl, rfl, rfl, h5, h4⟩
theorem val_zm (z : Int) : val (zm z) = z.natAbs := by unfold zm; rw [val_nd]
theorem nd_pos {d : Nat} (h : d ≠ 0) : nd d ≠ [] := fun e => h (nd_nil_iff.1 e)
theorem okR_mk {r : Rat} (h : Fit r) : okR (zn r.num) (zm r.num) (nd r.den) = true := by
  unfold okR
  rw [okB_mk (by have := h.1; omega), nd_ok (by have := h.2; omega), decide_eq_true (nd_pos r.den_nz), nd_length, zm_length, val_zm, val_nd, decide_eq_true h.1, decide_eq_true h.2, decide_eq_true r.reduced.gcd_eq_one]
  rfl
theorem valQ_yes {r : Rat} (h : Fit r) : valQ (zn r.num) (zm r.num) (nd r.den) = some r := by
  unfold valQ
  rw [okR_mk h, valB_z, val_nd, Rat.mkRat_self]
  rfl
theorem valQ_no {p : Bool} {l m : List Int} (h : okR p l m = false) : valQ p l m = none := by unfold valQ; rw [h]; rfl
theorem valQ_fit {p : Bool} {l m : List Int} {r : Rat} (h : valQ p l m = some r) : Fit r ∧ p = zn r.num ∧ l = zm r.num ∧ m = nd r.den := by
  by_cases hk : okR p l m = true
  · obtain ⟨s, rfl, rfl, rfl, hs⟩ := okR_q hk
    rw [valQ_yes hs] at h
    injection h with h
    subst h
    exact ⟨hs, rfl, rfl, rfl⟩
  · rw [valQ_no (by simpa using hk)] at h; cases h
/-- What a function of one or of two fractions answers: none where an argument is none. -/
def unQ (F : Rat → Option Rat) : Option Rat → Option Rat
  | none => none
  | some r => F r
def binQ (F : Rat → Rat → Option Rat) : Option Rat → Option Rat → Option Rat
  | some r, some s => F r s
  | _, _ => none
theorem binQ_no {F : Rat → Rat → Option Rat} {p q : Bool} {l m l' m' : List Int} (h : (okR p l m && okR q l' m') = false) : binQ F (valQ p l m) (valQ q l' m') = none := by
  rw [Bool.and_eq_false_iff] at h
  rcases h with h | h
  · rw [valQ_no h]; rfl
  · rw [valQ_no h]; cases valQ p l m <;> rfl
theorem ql_len {o : Option Rat} (h : ∀ r, o = some r → Fit r) : (ql o).length ≤ 24 ∧ (qd o).length ≤ 24 := by
  cases o with
  | none => exact ⟨Nat.zero_le _, Nat.zero_le _⟩
  | some r =>
    have := h r rfl
    refine ⟨?_, ?_⟩
    · show (zm r.num).length ≤ 24
      rw [zm_length]; exact this.1
    · show (nd r.den).length ≤ 24
      rw [nd_length]; exact this.2
/-- The lengths of products and of sums. -/
theorem ln_mul (a b : Nat) : ln (a * b) ≤ ln a + ln b := by
  rw [ln_le_iff, pw_add, Int.natCast_mul]
  have h1 := ln_lt a
  have h2 := ln_lt b
  have h3 : (a : Int) * (b : Int) ≤ (a : Int) * pw (ln b) := Int.mul_le_mul_of_nonneg_left (Int.le_of_lt h2) (by omega)
  have h4 : (a : Int) * pw (ln b) < pw (ln a) * pw (ln b) := Int.mul_lt_mul_of_pos_right h1 (pw_pos _)
  omega
theorem ln_add {a b k : Nat} (h : ln a ≤ k) (h' : ln b ≤ k) : ln (a + b) ≤ k + 1 := by
  rw [ln_le_iff] at *
  rw [pw_succ]
  have := pw_pos k
  omega
theorem ln_zadd {a b : Int} {k : Nat} (h : ln a.natAbs ≤ k) (h' : ln b.natAbs ≤ k) : ln (a + b).natAbs ≤ k + 1 := by
  have h1 := ln_add h h'
  have h2 := ln_mono (show (a + b).natAbs ≤ a.natAbs + b.natAbs by omega)
  omega
theorem ln_zmul (a b : Int) : ln (a * b).natAbs ≤ ln a.natAbs + ln b.natAbs := by rw [Int.natAbs_mul]; exact ln_mul _ _
/-- Lowest terms, part for part. -/
theorem low_parts (z : Int) (d : Nat) (hd : 0 < d) : (mkRat z d).num.natAbs = z.natAbs / Nat.gcd z.natAbs d ∧ (mkRat z d).den = d / Nat.gcd z.natAbs d ∧ zn (mkRat z d).num = zn z := by
  have hd' : d ≠ 0 := by omega
  have hg : 0 < Nat.gcd z.natAbs d := Nat.gcd_pos_of_pos_right _ hd
  rw [Rat.num_mkRat, Rat.den_mkRat, if_neg hd', if_neg hd', Nat.gcd_comm d]
  have hdv : ((Nat.gcd z.natAbs d : Nat) : Int) ∣ z := by
    rw [← Int.dvd_natAbs, Int.ofNat_dvd]; exact Nat.gcd_dvd_left _ _
  refine ⟨by rw [Int.natAbs_ediv_of_dvd hdv, Int.natAbs_natCast], rfl, ?_⟩
  unfold zn
  obtain ⟨k, hk⟩ := hdv
  generalize Nat.gcd z.natAbs d = g at hg hk ⊢
  have hgi : (0 : Int) < (g : Int) := by omega
  rw [hk, Int.mul_ediv_cancel_left _ (by omega)]
  by_cases h0 : k < 0
  · have : (g : Int) * k < 0 := Int.mul_neg_of_pos_of_neg hgi h0
    rw [decide_eq_true h0, decide_eq_true this]
  · have : ¬ (g : Int) * k < 0 := by
      have := Int.mul_nonneg (Int.le_of_lt hgi) (show 0 ≤ k by omega); omega
    rw [decide_eq_false h0, decide_eq_false this]
theorem low_zm (z : Int) (d : Nat) (hd : 0 < d) : zm (mkRat z d).num = nd (z.natAbs / Nat.gcd z.natAbs d) ∧ nd (mkRat z d).den = nd (d / Nat.gcd z.natAbs d) := by
  obtain ⟨h1, h2, _⟩ := low_parts z d hd
  unfold zm
  rw [h1, h2]
  exact ⟨rfl, rfl⟩
/-- Where numerator and denominator have no common divisor. -/
theorem low_one {z : Int} {d : Nat} (hd : 0 < d) (h : Nat.gcd z.natAbs d = 1) : (mkRat z d).num = z ∧ (mkRat z d).den = d := by
  have hd' : d ≠ 0 := by omega
  rw [Rat.num_mkRat, Rat.den_mkRat, if_neg hd', if_neg hd', Nat.gcd_comm d, h]
  exact ⟨by simp, by simp⟩
theorem den0 (r : Rat) : 0 < r.den := r.den_pos
/-- A quotient in terms of the parts. -/
theorem div_q {r s : Rat} (hs : s.num ≠ 0) : r / s = mkRat (if zn s.num then -(r.num * s.den) else r.num * s.den) (r.den * s.num.natAbs) := by
  have hs0 : s ≠ 0 := fun e => hs (by rw [e]; rfl)
  have hd : r.den * s.num.natAbs ≠ 0 := Nat.mul_ne_zero r.den_nz (by omega)
  have h1 : mkRat (if zn s.num then -(r.num * s.den) else r.num * s.den) (r.den * s.num.natAbs) * s = r := by
    have : ∀ a : Int, mkRat a (r.den * s.num.natAbs) * s = mkRat (a * s.num) (r.den * s.num.natAbs * s.den) := fun a => by
      have h := Rat.mkRat_mul_mkRat a s.num (r.den * s.num.natAbs) s.den
      rw [Rat.mkRat_self] at h
      exact h
    rw [this]
    conv => rhs; rw [← Rat.mkRat_self r]
    rw [Rat.mkRat_eq_iff (Nat.mul_ne_zero hd s.den_nz) r.den_nz]
    by_cases hn : s.num < 0
    · have e : zn s.num = true := by unfold zn; exact decide_eq_true hn
      have ea : ((s.num.natAbs : Nat) : Int) = -s.num := by omega
      rw [e, if_pos rfl, Int.natCast_mul, Int.natCast_mul, ea]
      simp only [Int.neg_mul, Int.mul_neg]
      congr 1
      ac_rfl
    · have e : zn s.num = false := by unfold zn; exact decide_eq_false hn
      have ea : ((s.num.natAbs : Nat) : Int) = s.num := by omega
      rw [e, if_neg (by decide), Int.natCast_mul, Int.natCast_mul, ea]
      ac_rfl
  have h2 : r / s * s = r := Rat.div_mul_cancel hs0
  have h3 := congrArg (· * s⁻¹) (h1.trans h2.symm)
  simp only [Rat.mul_assoc, Rat.mul_inv_cancel s hs0, Rat.mul_one] at h3
  exact h3.symm
/-- The order in terms of the parts. -/
def cmpQ (r s : Rat) : Int := if r < s then -1 else if s < r then 1 else 0
theorem cmpQ_parts (r s : Rat) : cmpQ r s = (if r.num * s.den < s.num * r.den then -1 else if s.num * r.den < r.num * s.den then 1 else 0) := by
  unfold cmpQ
  simp only [Rat.lt_iff]
theorem cmpQ_range (r s : Rat) : -1 ≤ cmpQ r s ∧ cmpQ r s ≤ 1 := by
  unfold cmpQ
  split
  · omega
  · split <;> omega
/-- Numerators and denominators of what the four operations make ahead of lowest terms. -/
theorem add_sizes {r s : Rat} (h : Fit r) (h' : Fit s) : ln (r.num * s.den + s.num * r.den).natAbs ≤ 49 ∧ ln (r.den * s.den) ≤ 48 ∧ ln (r.num * s.den).natAbs ≤ 48 ∧ ln (s.num * r.den).natAbs ≤ 48 := by
  have h1 := h.1; have h2 := h.2; have h3 := h'.1; have h4 := h'.2
  have a1 := ln_zmul r.num s.den
  have a2 := ln_zmul s.num r.den
  rw [Int.natAbs_natCast] at a1 a2
  have a3 := ln_mul r.den s.den
  exact ⟨ln_zadd (k := 48) (by omega) (by omega), by omega, by omega, by omega⟩
theorem mul_sizes {r s : Rat} (h : Fit r) (h' : Fit s) : ln (r.num * s.num).natAbs ≤ 48 ∧ ln (r.den * s.den) ≤ 48 ∧ ln (r.den * s.num.natAbs) ≤ 48 := by
  have h1 := h.1; have h2 := h.2; have h3 := h'.1; have h4 := h'.2
  have a1 := ln_zmul r.num s.num
  have a2 := ln_mul r.den s.den
  have a3 := ln_mul r.den s.num.natAbs
  exact ⟨by omega, by omega, by omega⟩
theorem neg_fit {r : Rat} (h : Fit r) : Fit (-r) := ⟨by rw [Rat.neg_num, Int.natAbs_neg]; exact h.1, h.2⟩
theorem int_fit {z : Int} (h : ln z.natAbs ≤ 24) : Fit (z : Rat) := ⟨h, by show ln 1 ≤ 24; rw [ln_pos (by decide), show 1 / 1000000000 = 0 by decide, ln_zero]; decide⟩
end Go.Proofs.YtennekieiioilaaGreat

namespace Go.Proofs.YtennekieiioilaaGreat
open Go.ChangeShapes Go.WideShapes Go.ChangeAt Go.RowKit
open Go.ChangeMaps (open_string shut_string)
set_option linter.unusedVariables false
set_option linter.unusedSimpArgs false

/-- The sign and the magnitude as an integer. -/
def sgn (s : Bool) (a : Nat) : Int := if s then -(a : Int) else (a : Int)
theorem sgn_abs (s : Bool) (a : Nat) : (sgn s a).natAbs = a := by cases s <;> simp [sgn]
theorem sgn_zn (s : Bool) (a : Nat) : zn (sgn s a) = (s && decide (a ≠ 0)) := by
  cases s
  · simp [sgn, zn]
  · by_cases h : a = 0
    · subst h; rfl
    · simp only [sgn, zn, if_true]
      rw [decide_eq_true (by omega), decide_eq_true h]
      rfl
theorem sgn_z (z : Int) : sgn (zn z) z.natAbs = z := by
  unfold sgn zn
  by_cases h : z < 0
  · rw [decide_eq_true h, if_pos rfl]; omega
  · rw [decide_eq_false h, if_neg (by decide)]; omega
theorem sgn_mul (x : Int) (b : Nat) : sgn (zn x) (x.natAbs * b) = x * (b : Int) := by
  have h := sgn_z x
  unfold sgn at h ⊢
  by_cases hz : zn x = true
  · rw [hz, if_pos rfl] at h ⊢
    rw [Int.natCast_mul, ← Int.neg_mul, h]
  · have hz' : zn x = false := by simpa using hz
    rw [hz', if_neg (by decide)] at h ⊢
    rw [Int.natCast_mul, h]
/-- The sign of a struct that is laid out anew: none at 0. -/
theorem zn_norm (z : Int) : (zn z && decide (nd z.natAbs ≠ [])) = zn z := by
  by_cases h : z < 0
  · rw [decide_eq_true (nd_pos (by omega)), Bool.and_true]
  · have : zn z = false := decide_eq_false h
    rw [this]; rfl
theorem zn_div {z : Int} {e k : Nat} (hk : z.natAbs = e * k) (he : 0 < e) : (zn z && decide (nd (z.natAbs / e) ≠ [])) = zn z := by
  rw [hk, Nat.mul_div_cancel_left _ he]
  by_cases h : z < 0
  · have hk0 : k ≠ 0 := by rintro rfl; omega
    rw [decide_eq_true (nd_pos hk0), Bool.and_true]
  · have : zn z = false := decide_eq_false h
    rw [this]; rfl
/-- A sum over the least common denominator. -/
theorem add_prog (r s : Rat) (g : Nat) (N : Int) (e : Nat) (hg : g = Nat.gcd r.den s.den) (hN : N = r.num * ((s.den / g : Nat) : Int) + s.num * ((r.den / g : Nat) : Int)) (he : e = Nat.gcd N.natAbs g) :
    (r + s).num.natAbs = N.natAbs / e ∧ (r + s).den = (r.den / g) * (s.den / e) ∧ zn (r + s).num = zn N ∧ 0 < g ∧ 0 < e := by
  have hgp : 0 < g := by rw [hg]; exact Nat.gcd_pos_of_pos_left _ r.den_pos
  have hep : 0 < e := by rw [he]; exact Nat.gcd_pos_of_pos_right _ hgp
  obtain ⟨a, ha⟩ : g ∣ r.den := by rw [hg]; exact Nat.gcd_dvd_left _ _
  obtain ⟨b, hb⟩ : g ∣ s.den := by rw [hg]; exact Nat.gcd_dvd_right _ _
  have ea : r.den / g = a := by rw [ha]; exact Nat.mul_div_cancel_left _ hgp
  have eb : s.den / g = b := by rw [hb]; exact Nat.mul_div_cancel_left _ hgp
  have ha0 : 0 < a := by
    rcases Nat.eq_zero_or_pos a with h | h
    · rw [h, Nat.mul_zero] at ha; exact absurd ha r.den_nz
    · exact h
  have hd : 0 < a * s.den := Nat.mul_pos ha0 s.den_pos
  have e1 : (r.den : Int) = (g : Int) * (a : Int) := by rw [ha, Int.natCast_mul]
  have e2 : (s.den : Int) = (g : Int) * (b : Int) := by rw [hb, Int.natCast_mul]
  have h1 : r + s = mkRat N (a * s.den) := by
    rw [Rat.add_def', Rat.mkRat_eq_iff (Nat.mul_ne_zero r.den_nz s.den_nz) (by omega), hN, ea, eb, Int.natCast_mul, Int.natCast_mul, e1, e2, Int.add_mul, Int.add_mul]
    congr 1 <;> ac_rfl
  have hx : Nat.gcd N.natAbs g = Nat.gcd N.natAbs (a * s.den) := by
    have h := Rat.add.aux r s (g := g) (ad := a) (bd := b) hg ea.symm eb.symm
    simp only at h
    rw [hN, ea, eb]
    exact h
  obtain ⟨p1, p2, p3⟩ := low_parts N (a * s.den) hd
  rw [← hx, ← he] at p1 p2
  rw [h1, ea]
  refine ⟨p1, ?_, p3, hgp, hep⟩
  rw [p2]
  exact Nat.mul_div_assoc a (Nat.dvd_trans (by rw [he]; exact Nat.gcd_dvd_right _ _) ⟨b, hb⟩)
theorem mul_prog (r s : Rat) (g h : Nat) (hg : g = Nat.gcd r.num.natAbs s.den) (hh : h = Nat.gcd s.num.natAbs r.den) :
    (r * s).num.natAbs = (r.num.natAbs / g) * (s.num.natAbs / h) ∧ (r * s).den = (r.den / h) * (s.den / g) ∧ zn (r * s).num = zn (r.num * s.num) ∧ 0 < g ∧ 0 < h := by
  have hgp : 0 < g := by rw [hg]; exact Nat.gcd_pos_of_pos_right _ s.den_pos
  have hhp : 0 < h := by rw [hh]; exact Nat.gcd_pos_of_pos_right _ r.den_pos
  have h3 : r * s = mkRat (r.num * s.num) (r.den * s.den) := Rat.mul_def' r s
  have hd : 0 < r.den * s.den := Nat.mul_pos r.den_pos s.den_pos
  obtain ⟨p1, p2, p3⟩ := low_parts (r.num * s.num) (r.den * s.den) hd
  rw [← h3, Int.natAbs_mul] at p1 p2
  rw [← h3] at p3
  have hG : Nat.gcd (r.num.natAbs * s.num.natAbs) (r.den * s.den) = g * h := by
    obtain ⟨a, ha⟩ : g ∣ r.num.natAbs := by rw [hg]; exact Nat.gcd_dvd_left _ _
    obtain ⟨b, hb⟩ : g ∣ s.den := by rw [hg]; exact Nat.gcd_dvd_right _ _
    obtain ⟨c, hc⟩ : h ∣ s.num.natAbs := by rw [hh]; exact Nat.gcd_dvd_left _ _
    obtain ⟨d, hd'⟩ : h ∣ r.den := by rw [hh]; exact Nat.gcd_dvd_right _ _
    have c1 : Nat.gcd a b = 1 := by
      have : Nat.gcd (g * a) (g * b) = g := by rw [← ha, ← hb]; exact hg.symm
      rw [Nat.gcd_mul_left] at this
      exact Nat.eq_of_mul_eq_mul_left hgp (by rw [this, Nat.mul_one])
    have c2 : Nat.gcd c d = 1 := by
      have : Nat.gcd (h * c) (h * d) = h := by rw [← hc, ← hd']; exact hh.symm
      rw [Nat.gcd_mul_left] at this
      exact Nat.eq_of_mul_eq_mul_left hhp (by rw [this, Nat.mul_one])
    have r1 : Nat.gcd (g * a) (h * d) = 1 := by rw [← ha, ← hd']; exact r.reduced.gcd_eq_one
    have r2 : Nat.gcd (h * c) (g * b) = 1 := by rw [← hc, ← hb]; exact s.reduced.gcd_eq_one
    have c3 : Nat.gcd a d = 1 := Nat.Coprime.coprime_dvd_left ⟨g, by rw [Nat.mul_comm]⟩ (Nat.Coprime.coprime_dvd_right ⟨h, by rw [Nat.mul_comm]⟩ r1)
    have c4 : Nat.gcd c b = 1 := Nat.Coprime.coprime_dvd_left ⟨h, by rw [Nat.mul_comm]⟩ (Nat.Coprime.coprime_dvd_right ⟨g, by rw [Nat.mul_comm]⟩ r2)
    rw [ha, hb, hc, hd', show g * a * (h * c) = g * h * (a * c) by ac_rfl, show h * d * (g * b) = g * h * (d * b) by ac_rfl, Nat.gcd_mul_left]
    have : Nat.gcd (a * c) (d * b) = 1 := Nat.Coprime.mul_left (Nat.Coprime.mul_right c3 c1) (Nat.Coprime.mul_right c2 c4)
    rw [this, Nat.mul_one]
  rw [hG] at p1 p2
  refine ⟨?_, ?_, p3, hgp, hhp⟩
  · rw [p1]
    obtain ⟨a, ha⟩ : g ∣ r.num.natAbs := by rw [hg]; exact Nat.gcd_dvd_left _ _
    obtain ⟨c, hc⟩ : h ∣ s.num.natAbs := by rw [hh]; exact Nat.gcd_dvd_left _ _
    rw [ha, hc, show g * a * (h * c) = g * h * (a * c) by ac_rfl, Nat.mul_div_cancel_left _ (Nat.mul_pos hgp hhp), Nat.mul_div_cancel_left _ hgp, Nat.mul_div_cancel_left _ hhp]
  · rw [p2]
    obtain ⟨b, hb⟩ : g ∣ s.den := by rw [hg]; exact Nat.gcd_dvd_right _ _
    obtain ⟨d, hd'⟩ : h ∣ r.den := by rw [hh]; exact Nat.gcd_dvd_right _ _
    rw [hb, hd', show h * d * (g * b) = g * h * (d * b) by ac_rfl, Nat.mul_div_cancel_left _ (Nat.mul_pos hgp hhp), Nat.mul_div_cancel_left _ hgp, Nat.mul_div_cancel_left _ hhp]
/-- The inverse, part for part. -/
theorem inv_prog (r : Rat) (h0 : r.num ≠ 0) : (r⁻¹).num.natAbs = r.den ∧ (r⁻¹).den = r.num.natAbs ∧ zn (r⁻¹).num = zn r.num := by
  have h1 : r⁻¹ = mkRat (if zn r.num then -(r.den : Int) else (r.den : Int)) r.num.natAbs := by
    have h := div_q (r := 1) (s := r) h0
    rw [Rat.div_def, Rat.one_mul] at h
    rw [h]
    have e1 : (1 : Rat).num = 1 := rfl
    have e2 : (1 : Rat).den = 1 := rfl
    rw [e1, e2, Int.one_mul, Nat.one_mul]
  have hc : Nat.gcd (if zn r.num then -(r.den : Int) else (r.den : Int)).natAbs r.num.natAbs = 1 := by
    have : (if zn r.num then -(r.den : Int) else (r.den : Int)).natAbs = r.den := by split <;> simp
    rw [this, Nat.gcd_comm]
    exact r.reduced.gcd_eq_one
  obtain ⟨p1, p2⟩ := low_one (by omega) hc
  rw [h1, p1, p2]
  refine ⟨by split <;> simp, rfl, ?_⟩
  have := r.den_pos
  unfold zn
  by_cases h : r.num < 0
  · rw [decide_eq_true h, if_pos rfl, decide_eq_true (by omega)]
  · rw [decide_eq_false h, if_neg (by decide), decide_eq_false (by omega)]
theorem inv_fit {r : Rat} (h : Fit r) (h0 : r.num ≠ 0) : Fit r⁻¹ := by
  obtain ⟨a, b, _⟩ := inv_prog r h0
  unfold Fit
  rw [a, b]
  exact ⟨h.2, h.1⟩
/-- Where both denominators are 1. -/
theorem add_one {r s : Rat} (h : r.den = 1) (h' : s.den = 1) : r + s = mkRat (r.num + s.num) 1 := by
  rw [Rat.add_def', h, h']
  simp
/-- The answers of the operations. -/
def addQ (r s : Rat) : Option Rat := cutQ (r + s)
def subQ (r s : Rat) : Option Rat := cutQ (r - s)
def mulQ (r s : Rat) : Option Rat := cutQ (r * s)
def quoQ (r s : Rat) : Option Rat := if s.num = 0 then none else cutQ (r / s)
def negQ (r : Rat) : Option Rat := some (-r)
def minQ (r s : Rat) : Option Rat := if cmpQ r s < 0 then some r else some s
def maxQ (r s : Rat) : Option Rat := if 0 < cmpQ r s then some r else some s
end Go.Proofs.YtennekieiioilaaGreat

namespace Go.Proofs.YtennekieiioilaaGreat
open Go.ChangeShapes Go.WideShapes Go.ChangeAt Go.RowKit
open Go.ChangeMaps (open_string shut_string)
set_option linter.unusedVariables false
set_option linter.unusedSimpArgs false
set_option maxRecDepth 4000

set_option maxHeartbeats 1000000 in
theorem eqRat_any (p q : Bool) (l m l' m' : List Int) (A D A' D' : Option Addr) (n k n' k' c d c' d' : Nat) (w : World) (hl : l.length = n) (hm : m.length = k) (hl' : l'.length = n') (hm' : m'.length = k')
    (hn : n ≤ 4611686018427387904) (hk : k ≤ 4611686018427387904) (hn' : n' ≤ 4611686018427387904) (hk' : k' ≤ 4611686018427387904)
    (hA : RdS w A (vi l)) (hD : RdS w D (vi m)) (hA' : RdS w A' (vi l')) (hD' : RdS w D' (vi m')) :
    Calls Tryz.prog 10 #[.agg #[.bool p, .slice A n c, .slice D k d], .agg #[.bool q, .slice A' n' c', .slice D' k' d']] w fun e w' => e = .returned (.bool (decide (p = q) && decide (l = l') && decide (m = m'))) ∧ Below w.heap.size w w' := by
  have HB := Lib.hid (fun W h h' => eqBig_any p q l l' A A' n n' c c' W hl hl' hn hn' h h')
  have HT := Lib.hid (fun W h h' => eqIntS_any m m' D D' k k' d d' W hm hm' hk hk' h h')
  clear hl hm hl' hm'
  generalize (decide (p = q) && decide (l = l')) = r at HB ⊢
  generalize decide (m = m') = s at HT ⊢
  go_enter Tryz.func10, Tryz.ntmps10
  go_wp2_with fail
  have kb := ba2 w (.cells #[.bool p, .slice A n c, .slice D k d] 30) (.cells #[.bool q, .slice A' n' c', .slice D' k' d'] 30)
  refine (HB.out _ (hA.below kb) (hA'.below kb)).mono ?_
  rintro e w1 ⟨rfl, hb⟩
  obtain ⟨hc, hf⟩ := bcell hb
  have hz : w.heap.size + 1 < w1.heap.size := by have := hb.size; rw [sz2] at this; omega
  have kb1 := bt kb hb
  clear hb
  cases r
  · go_wp2
    go_ret
    exact ⟨rfl, kb1⟩
  · go_wp2_with fail
    refine (HT.out _ (hD.below kb1) (hD'.below kb1)).mono ?_
    rintro e w2 ⟨rfl, hb⟩
    have kb2 := bt kb1 hb
    cases s
    · go_wp2
      go_ret
      exact ⟨rfl, kb2⟩
    · go_wp2
      go_ret
      exact ⟨rfl, kb2⟩

theorem rblk_set {w : World} {g : Nat} {t : TypeId} {cs : Array Value} (h : w.heap[g]? = some (.cells cs t (0, 0))) (i : Nat) (u : Value) : (w.setCell ⟨g, i, none⟩ u).heap[g]? = some (.cells (cs.setIfInBounds i u) t (0, 0)) := by
  simp [World.setCell, Array.getElem?_modify, h]
theorem rblk_other {w : World} {g g' : Nat} {o : Obj} (h : w.heap[g]? = some o) (i : Nat) (u : Value) (hne : g' ≠ g) : (w.setCell ⟨g', i, none⟩ u).heap[g]? = some o := by
  simp [World.setCell, Array.getElem?_modify, h, hne]
theorem rblk_cell {w : World} {g : Nat} {t : TypeId} {cs : Array Value} (h : w.heap[g]? = some (.cells cs t (0, 0))) (i : Nat) : w.cell? ⟨g, i, none⟩ = cs[i]? := cell_of_row w g i cs t (0, 0) h
theorem rblk_free {w : World} {g : Nat} {t : TypeId} {cs : Array Value} (h : w.heap[g]? = some (.cells cs t (0, 0))) (i : Nat) : w.frozen? ⟨g, i, none⟩ = false := by
  simp [World.frozen?, h]
theorem rblk_below {w w' : World} {g : Nat} {o : Obj} (h : w.heap[g]? = some o) (hb : Below w.heap.size w w') : w'.heap[g]? = some o := by
  have hlt : g < w.heap.size := (Array.getElem?_eq_some_iff.1 h).1
  rw [hb.block g hlt]; exact h
theorem rblk_lt {w : World} {g : Nat} {o : Obj} (h : w.heap[g]? = some o) : g < w.heap.size := (Array.getElem?_eq_some_iff.1 h).1
theorem InR.wide {n lo hi lo' hi' : Nat} {A : Option Addr} (h : InR n A lo hi) (h1 : lo' ≤ lo) (h2 : hi ≤ hi') : InR n A lo' hi' := fun g hg => by have := h g hg; omega
theorem put_size (w : World) (a : Addr) (v : Value) : (w.setCell a v).heap.size = w.heap.size := by simp [World.setCell]
theorem blocks3 (w : World) (o1 o2 o3 : Obj) : (((w.alloc o1).alloc o2).alloc o3).heap[w.heap.size]? = some o1 ∧ (((w.alloc o1).alloc o2).alloc o3).heap[w.heap.size + 1]? = some o2 ∧ (((w.alloc o1).alloc o2).alloc o3).heap[w.heap.size + 1 + 1]? = some o3 := by
  have h1 := rblk_below (rblk_below (heap_alloc_new w o1) (ba1 (w.alloc o1) o2)) (ba1 ((w.alloc o1).alloc o2) o3)
  have h2 := rblk_below (heap_alloc_new (w.alloc o1) o2) (ba1 ((w.alloc o1).alloc o2) o3)
  have h3 := heap_alloc_new ((w.alloc o1).alloc o2) o3
  rw [sz1] at h2
  rw [sz1, sz1] at h3
  exact ⟨h1, h2, h3⟩

set_option maxHeartbeats 1000000 in
theorem toRat_any (p : Bool) (l m : List Int) (A D : Option Addr) (n c k d : Nat) (w : World) (hl : l.length = n) (hn : n ≤ 1048576) (hA : RdS w A (vi l)) (hm : m.length = k) (hk : k ≤ 1048576) (hD : RdS w D (vi m)) :
    Calls Tryz.prog 44 #[.agg #[.bool p, .slice A n c, .slice D k d]] w fun e w' => ∃ g g', e = .returned (.agg #[.bool p, .slice (some ⟨g, 0, none⟩) n n, .slice (some ⟨g', 0, none⟩) k k]) ∧ OwnS w.heap.size w' (some ⟨g, 0, none⟩) (vi l) ∧ OwnS w.heap.size w' (some ⟨g', 0, none⟩) (vi m) ∧ (∃ mid, InR n (some ⟨g, 0, none⟩) w.heap.size mid ∧ InR k (some ⟨g', 0, none⟩) mid w'.heap.size) ∧ Below w.heap.size w w' := by
  have HB := Lib.hid (fun W h => toBig_any p l A n c W hl hn h)
  have HT := Lib.hid (fun W h => toIntS_any m D k d W hm hk h)
  have V : Hid ((vi l).length = n ∧ (vi m).length = k) := Lib.hid ⟨by rw [vi_length, hl], by rw [vi_length, hm]⟩
  clear hl hm
  go_enter Tryz.func44, Tryz.ntmps44
  go_wp2_with fail
  have kb := ba3 w (.cells #[.bool p, .slice A n c, .slice D k d] 65) (.cells #[.bool false, .slice none 0 0, .slice none 0 0] 30) (.cells #[.bool false, .slice none 0 0, .slice none 0 0] 30)
  obtain ⟨P, R, O⟩ := blocks3 w (.cells #[.bool p, .slice A n c, .slice D k d] 65) (.cells #[.bool false, .slice none 0 0, .slice none 0 0] 30) (.cells #[.bool false, .slice none 0 0, .slice none 0 0] 30)
  generalize (((w.alloc (.cells #[.bool p, .slice A n c, .slice D k d] 65)).alloc (.cells #[.bool false, .slice none 0 0, .slice none 0 0] 30)).alloc (.cells #[.bool false, .slice none 0 0, .slice none 0 0] 30)) = W1 at kb P R O ⊢
  have hltO := rblk_lt O
  refine (HB.out _ (hA.below kb)).mono ?_
  rintro e W2 ⟨g, rfl, own, hb⟩
  replace P := rblk_below P hb
  replace R := rblk_below R hb
  replace O := rblk_below O hb
  replace kb := bt kb hb
  clear hb
  have p2 : W2.cell? ⟨w.heap.size, 2, none⟩ = some (.slice D k d) := rblk_cell P 2
  have o0 : W2.cell? ⟨w.heap.size + 1 + 1, 0, none⟩ = some (.bool false) := rblk_cell O 0
  have o1 : W2.cell? ⟨w.heap.size + 1 + 1, 1, none⟩ = some (.slice none 0 0) := rblk_cell O 1
  have f0 := rblk_free O 0
  have f1 := rblk_free O 1
  go_wp2_with fail
  clear p2 o0 o1 f0 f1
  replace R := rblk_other (rblk_other R 0 (.bool p) (show w.heap.size + 1 + 1 ≠ w.heap.size + 1 by omega)) 1 (.slice (some ⟨g, 0, none⟩) n n) (show w.heap.size + 1 + 1 ≠ w.heap.size + 1 by omega)
  replace O := rblk_set (rblk_set O 0 (.bool p)) 1 (.slice (some ⟨g, 0, none⟩) n n)
  replace own := (own.put (b := w.heap.size + 1 + 1) (o := 0) (by omega) (.bool p)).put (b := w.heap.size + 1 + 1) (o := 1) (by omega) (.slice (some ⟨g, 0, none⟩) n n)
  replace kb := below_put (o := 1) (below_put (o := 0) kb (show w.heap.size ≤ w.heap.size + 1 + 1 by omega) (.bool p)) (show w.heap.size ≤ w.heap.size + 1 + 1 by omega) (.slice (some ⟨g, 0, none⟩) n n)
  generalize (W2.setCell ⟨w.heap.size + 1 + 1, 0, none⟩ (.bool p)).setCell ⟨w.heap.size + 1 + 1, 1, none⟩ (.slice (some ⟨g, 0, none⟩) n n) = W3 at R O own kb ⊢
  have hlt3 := rblk_lt O
  have hsz3 := kb.size
  have i1 : InR n (some ⟨g, 0, none⟩) w.heap.size W3.heap.size := (own.inR V.out.1).wide (by omega) (Nat.le_refl _)
  refine (HT.out _ (hD.below kb)).mono ?_
  rintro e W4 ⟨g', rfl, own', hb⟩
  replace R := rblk_below R hb
  replace O := rblk_below O hb
  replace own := own.below hb
  replace kb := bt kb hb
  have i2 := own'.inR V.out.2
  clear hb P
  have o0 : W4.cell? ⟨w.heap.size + 1 + 1, 0, none⟩ = some (.bool p) := rblk_cell O 0
  have o1 : W4.cell? ⟨w.heap.size + 1 + 1, 1, none⟩ = some (.slice (some ⟨g, 0, none⟩) n n) := rblk_cell O 1
  have o2 : W4.cell? ⟨w.heap.size + 1 + 1, 2, none⟩ = some (.slice none 0 0) := rblk_cell O 2
  have f2 := rblk_free O 2
  have r0 : W4.cell? ⟨w.heap.size + 1, 0, none⟩ = some (.bool false) := rblk_cell R 0
  have r1 : W4.cell? ⟨w.heap.size + 1, 1, none⟩ = some (.slice none 0 0) := rblk_cell R 1
  have r2 : W4.cell? ⟨w.heap.size + 1, 2, none⟩ = some (.slice none 0 0) := rblk_cell R 2
  have s0 := rblk_free R 0
  have s1 := rblk_free R 1
  have s2 := rblk_free R 2
  go_wp2
  exact bodyPost_ret (v := .agg #[.bool p, .slice (some ⟨g, 0, none⟩) n n, .slice (some ⟨g', 0, none⟩) k k]) (by simp [results, Tryz.results44, go_sem, r0, r1, r2]) rfl ⟨g, g', rfl, ((((own.put (by omega) _).put (by omega) _).put (by omega) _).put (by omega) _).more (by omega), ((((own'.put (by omega) _).put (by omega) _).put (by omega) _).put (by omega) _).more (by omega), ⟨W3.heap.size, i1, i2.wide (Nat.le_refl _) (by simp only [put_size]; exact Nat.le_refl _)⟩, below_put (below_put (below_put (below_put kb (by omega) _) (by omega) _) (by omega) _) (by omega) _⟩

/-- Two rows apart. -/
def Apart (n : Nat) (A : Option Addr) (k : Nat) (D : Option Addr) : Prop := ∀ a, rowOf n A = some a → rowOf k D ≠ some a
theorem Apart.symm {n k : Nat} {A D : Option Addr} (h : Apart n A k D) : Apart k D n A := fun a ha hb => h a hb ha
theorem InR.apart {n k lo hi lo' hi' : Nat} {A D : Option Addr} (h : InR n A lo hi) (h' : InR k D lo' hi') (hd : hi ≤ lo' ∨ hi' ≤ lo) : Apart n A k D := fun a ha hb => by
  have h1 := h a ha
  have h2 := h' a hb
  omega
theorem OwnS.apartN {B n k : Nat} {w w' : World} {A D : Option Addr} {l : List Value} (h : OwnS B w A l) (hl : l.length = n) (hg : w.grownBy w' (rowOf k D)) (hd : Apart n A k D) : OwnS B w' A l := by
  by_cases h0 : l.length = 0
  · exact .inl (List.eq_nil_of_length_eq_zero h0)
  · obtain ⟨g, ha, hB, hs, hc, hf⟩ := h.block (by omega)
    have hrg : rowOf n A = some g := by unfold rowOf; rw [if_neg (by omega), ha]; rfl
    have hkk : w'.heap[g]? = w.heap[g]? := hg.block g hs (fun e => hd g hrg e.symm)
    refine .inr ⟨g, ha, hB, Nat.lt_of_lt_of_le hs hg.size, fun j hj => ?_, fun j hj => ?_⟩
    · rw [World.cell?_of_block (w := w) (a := ⟨g, j, none⟩) hkk]; exact hc j hj
    · rw [World.frozen?_of_block (w := w) (a := ⟨g, j, none⟩) hkk]; exact hf j hj
/-- Behind a call that writes into two rows and makes memory. -/
def Grown2 (w w' : World) (r s : Option Nat) : Prop := ∃ w1, w.grownBy w1 r ∧ w1.grownBy w' s

set_option maxHeartbeats 800000 in
theorem markRat_any (B : Nat) (p : Bool) (l m : List Value) (A D : Option Addr) (n c k d : Nat) (x : Int) (w : World) (hl : l.length = n) (hm : m.length = k) (hx : 0 < x) (hn : x + n + k ≤ 4611686018427387904) (hA : OwnS B w A l) (hD : OwnS B w D m) (hap : Apart n A k D) :
    Calls Tryz.prog 13 #[.agg #[.bool p, .slice A n c, .slice D k d], .int .i64 x] w fun e w' => e = .returned (.int .i64 (x + (n : Int) + (k : Int))) ∧ OwnS B w' A (vi (marks x n)) ∧ OwnS B w' D (vi (marks (x + (n : Int)) k)) ∧ Grown2 w w' (rowOf n A) (rowOf k D) := by
  have HB := Lib.hid (fun W h => markBig_any B p l A n c x W hl hx (by omega) h)
  have ra := hA.inR hl
  have la := marks_length x n
  obtain ⟨y, hy⟩ : ∃ y, y = x + (n : Int) := ⟨_, rfl⟩
  rw [← hy] at HB ⊢
  have HT := Lib.hid (fun W h => markIntS_any B m D k d y W hm (by omega) (by omega) h)
  have hyk0 : 0 ≤ y + (k : Int) := by omega
  have hyk1 : y + (k : Int) ≤ 4611686018427387904 := by omega
  clear hn hx hy
  go_enter Tryz.func13, Tryz.ntmps13
  go_wp2_with fail
  have kb := ba1 w (.cells #[.bool p, .slice A n c, .slice D k d] 30)
  have P := heap_alloc_new w (.cells #[.bool p, .slice A n c, .slice D k d] 30)
  generalize w.alloc (.cells #[.bool p, .slice A n c, .slice D k d] 30) = W1 at kb P ⊢
  refine (HB.out _ (hA.below kb)).mono ?_
  rintro e W2 ⟨rfl, oa, hg⟩
  have hlt := rblk_lt P
  have P2 : W2.heap[w.heap.size]? = some (.cells #[.bool p, .slice A n c, .slice D k d] 30 (0, 0)) := (hg.block w.heap.size hlt (fun e => by have := ra w.heap.size e.symm; omega)).trans P
  have od := (hD.below kb).apartN hm hg hap.symm
  have hG := grown_pre kb hg
  clear hg P kb
  have p2 : W2.cell? ⟨w.heap.size, 2, none⟩ = some (.slice D k d) := rblk_cell P2 2
  go_wp2_with fail
  clear p2
  refine (HT.out _ od).mono ?_
  rintro e W3 ⟨rfl, od3, hg⟩
  have oa3 := oa.apartN (by rw [vi_length, la]) hg hap
  go_wp2
  go_ret
  exact ⟨rfl, oa3, od3, ⟨W2, hG, hg⟩⟩

set_option maxHeartbeats 800000 in
theorem heldRat_any (p : Bool) (A D : Option Addr) (n c k d : Nat) (x : Int) (w : World) (hx : 0 < x) (hn : x + n + k ≤ 4611686018427387904) (hA : RdS w A (vi (marks x n))) (hD : RdS w D (vi (marks (x + (n : Int)) k))) :
    Calls Tryz.prog 14 #[.agg #[.bool p, .slice A n c, .slice D k d], .int .i64 x] w fun e w' => e = .returned (.int .i64 (x + (n : Int) + (k : Int))) ∧ Below w.heap.size w w' := by
  have HB := Lib.hid (fun W h => heldBig_any p A n c x W hx (by omega) h)
  obtain ⟨y, hy⟩ : ∃ y, y = x + (n : Int) := ⟨_, rfl⟩
  rw [← hy] at HB hD ⊢
  have HT := Lib.hid (fun W h => heldIntS_any D k d y W (by omega) (by omega) h)
  have hy0 : ¬ y < 0 := by omega
  have hyk : ¬ y + (k : Int) < 0 := by omega
  have hyk0 : 0 ≤ y + (k : Int) := by omega
  have hyk1 : y + (k : Int) ≤ 4611686018427387904 := by omega
  clear hn hx hy
  go_enter Tryz.func14, Tryz.ntmps14
  go_wp2_with fail
  have kb := ba1 w (.cells #[.bool p, .slice A n c, .slice D k d] 30)
  have P := heap_alloc_new w (.cells #[.bool p, .slice A n c, .slice D k d] 30)
  generalize w.alloc (.cells #[.bool p, .slice A n c, .slice D k d] 30) = W1 at kb P ⊢
  refine (HB.out _ (hA.below kb)).mono ?_
  rintro e W2 ⟨rfl, hb⟩
  replace P := rblk_below P hb
  replace kb := bt kb hb
  clear hb
  have p2 : W2.cell? ⟨w.heap.size, 2, none⟩ = some (.slice D k d) := rblk_cell P 2
  go_wp2_with fail
  clear p2
  refine (HT.out _ (hD.below kb)).mono ?_
  rintro e W3 ⟨rfl, hb⟩
  replace kb := bt kb hb
  go_wp2
  go_ret
  exact ⟨rfl, kb⟩

theorem eqRat_same (p : Bool) (l m : List Int) (A D A' D' : Option Addr) (n k c d c' d' : Nat) (w : World) (hl : l.length = n) (hm : m.length = k) (hn : n ≤ 4611686018427387904) (hk : k ≤ 4611686018427387904)
    (hA : RdS w A (vi l)) (hD : RdS w D (vi m)) (hA' : RdS w A' (vi l)) (hD' : RdS w D' (vi m)) :
    Calls Tryz.prog 10 #[.agg #[.bool p, .slice A n c, .slice D k d], .agg #[.bool p, .slice A' n c', .slice D' k d']] w fun e w' => e = .returned (.bool true) ∧ Below w.heap.size w w' :=
  (eqRat_any p p l m l m A D A' D' n k n k c d c' d' w hl hm hl hm hn hk hn hk hA hD hA' hD').mono fun e w' ⟨he, hb⟩ => ⟨by rw [he]; simp, hb⟩

/-- The room that the harness leaves. -/
def SzPost (left : Int) (n k : Nat) (w : World) (e : Ending) (w' : World) : Prop := (e = .returned (.int .i64 (if (n : Int) + (k : Int) ≤ left then left - (n : Int) - (k : Int) else -1))) ∧ Below w.heap.size w w'
set_option maxHeartbeats 800000 in
theorem szRat_any (p : Bool) (A D : Option Addr) (n c k d : Nat) (left : Int) (w : World) (h0 : 0 ≤ left) (h1 : left ≤ 1048576) (hn : n ≤ 9223372036854775807) (hk : k ≤ 9223372036854775807) :
    Calls Tryz.prog 40 #[.agg #[.bool p, .slice A n c, .slice D k d], .int .i64 left] w (SzPost left n k w) := by
  by_cases hg : (n : Int) ≤ left
  · have HB := Lib.hid (fun W => szBig_yes p A n c left W h0 h1 hg)
    obtain ⟨y, hy⟩ : ∃ y, y = left - (n : Int) := ⟨_, rfl⟩
    rw [← hy] at HB
    have hy0 : ¬ y < 0 := by omega
    have hy1 : y ≤ 1048576 := by omega
    by_cases hg2 : (k : Int) ≤ y
    · have HT := Lib.hid (fun W => szInt_yes D k d y W (by omega) hy1 hg2)
      have hq : (if (n : Int) + (k : Int) ≤ left then left - (n : Int) - (k : Int) else -1) = y - (k : Int) := by rw [if_pos (by omega), hy]
      have hz : ¬ y - (k : Int) < 0 := by omega
      have hz1 : y - (k : Int) ≤ 1048576 := by omega
      unfold SzPost
      rw [hq]
      clear hq hg hg2 h0 h1 hy hn hk
      go_enter Tryz.func40, Tryz.ntmps40
      go_wp2_with fail
      have kb := ba1 w (.cells #[.bool p, .slice A n c, .slice D k d] 65)
      have P := heap_alloc_new w (.cells #[.bool p, .slice A n c, .slice D k d] 65)
      generalize w.alloc (.cells #[.bool p, .slice A n c, .slice D k d] 65) = W1 at kb P ⊢
      refine (HB.out _).mono ?_
      rintro e W2 ⟨rfl, hb⟩
      replace P := rblk_below P hb
      replace kb := bt kb hb
      clear hb
      have p2 : W2.cell? ⟨w.heap.size, 2, none⟩ = some (.slice D k d) := rblk_cell P 2
      go_wp2_with fail
      clear p2
      refine (HT.out _).mono ?_
      rintro e W3 ⟨rfl, rfl⟩
      go_wp2
      go_ret
      exact ⟨rfl, kb⟩
    · have HT := Lib.hid (fun W => szInt_no D k d y W (by omega) hy1 hk hg2)
      have hq : (if (n : Int) + (k : Int) ≤ left then left - (n : Int) - (k : Int) else -1) = -1 := by rw [if_neg (by omega)]
      unfold SzPost
      rw [hq]
      clear hq hg hg2 h0 h1 hy hn hk
      go_enter Tryz.func40, Tryz.ntmps40
      go_wp2_with fail
      have kb := ba1 w (.cells #[.bool p, .slice A n c, .slice D k d] 65)
      have P := heap_alloc_new w (.cells #[.bool p, .slice A n c, .slice D k d] 65)
      generalize w.alloc (.cells #[.bool p, .slice A n c, .slice D k d] 65) = W1 at kb P ⊢
      refine (HB.out _).mono ?_
      rintro e W2 ⟨rfl, hb⟩
      replace P := rblk_below P hb
      replace kb := bt kb hb
      clear hb
      have p2 : W2.cell? ⟨w.heap.size, 2, none⟩ = some (.slice D k d) := rblk_cell P 2
      go_wp2_with fail
      clear p2
      refine (HT.out _).mono ?_
      rintro e W3 ⟨rfl, rfl⟩
      go_wp2
      go_ret
      exact ⟨rfl, kb⟩
  · have HB := Lib.hid (fun W => szBig_no p A n c left W h0 h1 hn hg)
    have hq : (if (n : Int) + (k : Int) ≤ left then left - (n : Int) - (k : Int) else -1) = -1 := by rw [if_neg (by omega)]
    unfold SzPost
    rw [hq]
    clear hq hg h0 h1 hn hk
    go_enter Tryz.func40, Tryz.ntmps40
    go_wp2_with fail
    have kb := ba1 w (.cells #[.bool p, .slice A n c, .slice D k d] 65)
    generalize w.alloc (.cells #[.bool p, .slice A n c, .slice D k d] 65) = W1 at kb ⊢
    refine (HB.out _).mono ?_
    rintro e W2 ⟨rfl, hb⟩
    replace kb := bt kb hb
    go_wp2
    go_ret
    exact ⟨rfl, kb⟩
end Go.Proofs.YtennekieiioilaaGreat

namespace Go.Proofs.YtennekieiioilaaGreat
open Go.ChangeShapes Go.WideShapes Go.ChangeAt Go.RowKit
open Go.ChangeMaps (open_string shut_string)
set_option linter.unusedVariables false
set_option linter.unusedSimpArgs false
set_option maxRecDepth 4000

theorem blocks2 (w : World) (o1 o2 : Obj) : ((w.alloc o1).alloc o2).heap[w.heap.size]? = some o1 ∧ ((w.alloc o1).alloc o2).heap[w.heap.size + 1]? = some o2 := by
  have h1 := rblk_below (heap_alloc_new w o1) (ba1 (w.alloc o1) o2)
  have h2 := heap_alloc_new (w.alloc o1) o2
  rw [sz1] at h2
  exact ⟨h1, h2⟩
/-- A fraction in rows of the call's own, apart. -/
def MadeR (B : Nat) (p : Bool) (L M : List Int) (w : World) (e : Ending) (w' : World) : Prop :=
  ∃ A c D d, e = .returned (.agg #[.bool p, .slice A L.length c, .slice D M.length d]) ∧ L.length ≤ c ∧ M.length ≤ d ∧ OwnS B w' A (vi L) ∧ OwnS B w' D (vi M) ∧ Apart L.length A M.length D ∧ Below w.heap.size w w'
theorem MadeR.to {B : Nat} {p p' : Bool} {L M L' M' : List Int} {w w' : World} {e : Ending} (h : MadeR B p L M w e w') (h1 : p' = p) (h2 : L' = L) (h3 : M' = M) : MadeR B p' L' M' w e w' := by subst h1; subst h2; subst h3; exact h
/-- Block r holds three cells that may be written. -/
def Box3 (w : World) (r : Nat) : Prop := ∃ a b c T, w.heap[r]? = some (.cells #[a, b, c] T (0, 0))
/-- Of what W0 holds only block r, of three cells, may have turned. -/
def Keep3 (W0 w : World) (r : Nat) : Prop := Box3 w r ∧ W0.grownBy w (some r)
theorem Keep3.start {W0 : World} {r : Nat} {a b c : Value} {T : TypeId} (h : W0.heap[r]? = some (.cells #[a, b, c] T (0, 0))) : Keep3 W0 W0 r := ⟨⟨a, b, c, T, h⟩, grown_refl _ _⟩
theorem Keep3.drew {W0 w : World} {r : Nat} (h : Keep3 W0 w r) : Keep3 W0 w.drew r := ⟨h.1, ⟨h.2.os, h.2.tape, h.2.output, h.2.size, h.2.block⟩⟩
theorem Keep3.below {W0 w w' : World} {r : Nat} (h : Keep3 W0 w r) (hb : Below w.heap.size w w') : Keep3 W0 w' r := by
  obtain ⟨⟨a, b, c, T, e⟩, g⟩ := h
  exact ⟨⟨a, b, c, T, rblk_below e hb⟩, grown_below g hb⟩
theorem Keep3.put3 {W0 w : World} {r : Nat} (h : Keep3 W0 w r) (u0 u1 u2 : Value) : Keep3 W0 (((w.setCell ⟨r, 0, none⟩ u0).setCell ⟨r, 1, none⟩ u1).setCell ⟨r, 2, none⟩ u2) r := by
  obtain ⟨⟨a, b, c, T, e⟩, g⟩ := h
  exact ⟨⟨u0, u1, u2, T, rblk_set (rblk_set (rblk_set e 0 u0) 1 u1) 2 u2⟩, grown_setCell (grown_setCell (grown_setCell g 0 u0) 1 u1) 2 u2⟩
theorem Keep3.grown {W0 w w' : World} {r g : Nat} (h : Keep3 W0 w r) (hg : w.grownBy w' (some g)) (h0 : W0.heap.size ≤ g) (hr : r < W0.heap.size) : Keep3 W0 w' r := by
  obtain ⟨⟨a, b, c, T, e⟩, k⟩ := h
  refine ⟨⟨a, b, c, T, (hg.block r (rblk_lt e) (by simp; omega)).trans e⟩, ⟨hg.os.trans k.os, hg.tape.trans k.tape, hg.output.trans k.output, Nat.le_trans k.size hg.size, fun i hi hne => ?_⟩⟩
  exact (hg.block i (Nat.lt_of_lt_of_le hi k.size) (by simp; omega)).trans (k.block i hi hne)
theorem Keep3.block {W0 w : World} {r g : Nat} {o : Obj} (h : Keep3 W0 w r) (P : W0.heap[g]? = some o) (hne : r ≠ g) : w.heap[g]? = some o :=
  (h.2.block g (rblk_lt P) (fun e => hne (by injection e with e; exact e.symm))).trans P
theorem Keep3.base {w0 W0 w : World} {r : Nat} (h : Keep3 W0 w r) (kb : Below w0.heap.size w0 W0) (hr : w0.heap.size ≤ r) : Below w0.heap.size w0 w :=
  kb.trans (below_of_grown h.2 kb.size (fun g e => by injection e with e; omega))
theorem Keep3.lt {W0 w : World} {r : Nat} (h : Keep3 W0 w r) : r < w.heap.size := by
  obtain ⟨⟨a, b, c, T, e⟩, _⟩ := h
  exact rblk_lt e
theorem Keep3.size {W0 w : World} {r : Nat} (h : Keep3 W0 w r) : W0.heap.size ≤ w.heap.size := h.2.size
theorem Keep3.cells {W0 w : World} {r : Nat} (h : Keep3 W0 w r) : ∃ u0 u1 u2, w.cell? ⟨r, 0, none⟩ = some u0 ∧ w.cell? ⟨r, 1, none⟩ = some u1 ∧ w.cell? ⟨r, 2, none⟩ = some u2 ∧ w.frozen? ⟨r, 0, none⟩ = false ∧ w.frozen? ⟨r, 1, none⟩ = false ∧ w.frozen? ⟨r, 2, none⟩ = false := by
  obtain ⟨⟨a, b, c, T, e⟩, _⟩ := h
  exact ⟨a, b, c, rblk_cell e 0, rblk_cell e 1, rblk_cell e 2, rblk_free e 0, rblk_free e 1, rblk_free e 2⟩
theorem own_put3 {B r : Nat} {w : World} {A : Option Addr} {l : List Value} (h : OwnS B w A l) (hr : r < B) (u0 u1 u2 : Value) : OwnS B (((w.setCell ⟨r, 0, none⟩ u0).setCell ⟨r, 1, none⟩ u1).setCell ⟨r, 2, none⟩ u2) A l := ((h.put hr u0).put hr u1).put hr u2
theorem below_put3 {B r : Nat} {w w1 : World} (h : Below B w w1) (hr : B ≤ r) (u0 u1 u2 : Value) : Below B w (((w1.setCell ⟨r, 0, none⟩ u0).setCell ⟨r, 1, none⟩ u1).setCell ⟨r, 2, none⟩ u2) := below_put (below_put (below_put h hr u0) hr u1) hr u2
/-- Block r holds two cells that may be written. -/
def Box2 (w : World) (r : Nat) : Prop := ∃ a b T, w.heap[r]? = some (.cells #[a, b] T (0, 0))
/-- Of what W0 holds only block r, of two cells, may have turned. -/
def Keep2 (W0 w : World) (r : Nat) : Prop := Box2 w r ∧ W0.grownBy w (some r)
theorem Keep2.start {W0 : World} {r : Nat} {a b : Value} {T : TypeId} (h : W0.heap[r]? = some (.cells #[a, b] T (0, 0))) : Keep2 W0 W0 r := ⟨⟨a, b, T, h⟩, grown_refl _ _⟩
theorem Keep2.drew {W0 w : World} {r : Nat} (h : Keep2 W0 w r) : Keep2 W0 w.drew r := ⟨h.1, ⟨h.2.os, h.2.tape, h.2.output, h.2.size, h.2.block⟩⟩
theorem Keep2.below {W0 w w' : World} {r : Nat} (h : Keep2 W0 w r) (hb : Below w.heap.size w w') : Keep2 W0 w' r := by
  obtain ⟨⟨a, b, T, e⟩, g⟩ := h
  exact ⟨⟨a, b, T, rblk_below e hb⟩, grown_below g hb⟩
theorem Keep2.put2 {W0 w : World} {r : Nat} (h : Keep2 W0 w r) (u0 u1 : Value) : Keep2 W0 ((w.setCell ⟨r, 0, none⟩ u0).setCell ⟨r, 1, none⟩ u1) r := by
  obtain ⟨⟨a, b, T, e⟩, g⟩ := h
  exact ⟨⟨u0, u1, T, rblk_set (rblk_set e 0 u0) 1 u1⟩, grown_setCell (grown_setCell g 0 u0) 1 u1⟩
theorem Keep2.block {W0 w : World} {r g : Nat} {o : Obj} (h : Keep2 W0 w r) (P : W0.heap[g]? = some o) (hne : r ≠ g) : w.heap[g]? = some o :=
  (h.2.block g (rblk_lt P) (fun e => hne (by injection e with e; exact e.symm))).trans P
theorem Keep2.base {w0 W0 w : World} {r : Nat} (h : Keep2 W0 w r) (kb : Below w0.heap.size w0 W0) (hr : w0.heap.size ≤ r) : Below w0.heap.size w0 w :=
  kb.trans (below_of_grown h.2 kb.size (fun g e => by injection e with e; omega))
theorem Keep2.lt {W0 w : World} {r : Nat} (h : Keep2 W0 w r) : r < w.heap.size := by
  obtain ⟨⟨a, b, T, e⟩, _⟩ := h
  exact rblk_lt e
theorem Keep2.size {W0 w : World} {r : Nat} (h : Keep2 W0 w r) : W0.heap.size ≤ w.heap.size := h.2.size
theorem Keep2.cells {W0 w : World} {r : Nat} (h : Keep2 W0 w r) : ∃ u0 u1, w.cell? ⟨r, 0, none⟩ = some u0 ∧ w.cell? ⟨r, 1, none⟩ = some u1 ∧ w.frozen? ⟨r, 0, none⟩ = false ∧ w.frozen? ⟨r, 1, none⟩ = false := by
  obtain ⟨⟨a, b, T, e⟩, _⟩ := h
  exact ⟨a, b, rblk_cell e 0, rblk_cell e 1, rblk_free e 0, rblk_free e 1⟩
theorem own_put2 {B r : Nat} {w : World} {A : Option Addr} {l : List Value} (h : OwnS B w A l) (hr : r < B) (u0 u1 : Value) : OwnS B ((w.setCell ⟨r, 0, none⟩ u0).setCell ⟨r, 1, none⟩ u1) A l := (h.put hr u0).put hr u1
theorem below_put2 {B r : Nat} {w w1 : World} (h : Below B w w1) (hr : B ≤ r) (u0 u1 : Value) : Below B w ((w1.setCell ⟨r, 0, none⟩ u0).setCell ⟨r, 1, none⟩ u1) := below_put (below_put h hr u0) hr u1
/-- An empty block holds no row. -/
theorem OwnS.notE {B n g a : Nat} {w : World} {T : TypeId} {A : Option Addr} {l : List Value} (h : OwnS B w A l) (hn : l.length = n) (hg : w.heap[g]? = some (.cells #[] T (0, 0))) (ha : rowOf n A = some a) : a ≠ g := by
  by_cases h0 : n = 0
  · rw [rowOf, if_pos h0] at ha; cases ha
  · obtain ⟨g', e, _, _, hc, _⟩ := h.block (by omega)
    subst e
    rw [rowOf, if_neg h0] at ha
    rintro rfl
    have e1 : g' = a := by simpa using ha
    subst e1
    have h2 := hc 0 (by omega)
    rw [rblk_cell hg 0, List.getElem?_eq_getElem (by omega)] at h2
    simp at h2
theorem OwnS.grownE {B g : Nat} {w w' : World} {T : TypeId} {A : Option Addr} {l : List Value} (h : OwnS B w A l) (hg : w.heap[g]? = some (.cells #[] T (0, 0))) (hw : w.grownBy w' (some g)) : OwnS B w' A l := by
  refine h.apartN rfl (k := 1) (D := some ⟨g, 0, none⟩) (by simpa [rowOf] using hw) (fun a ha => ?_)
  have := h.notE rfl hg ha
  simp [rowOf]
  omega
theorem RdS.grownE {g : Nat} {w w' : World} {T : TypeId} {A : Option Addr} {l : List Value} (h : RdS w A l) (hg : w.heap[g]? = some (.cells #[] T (0, 0))) (hw : w.grownBy w' (some g)) : RdS w' A l := by
  by_cases h0 : l.length = 0
  · exact .inl (List.eq_nil_of_length_eq_zero h0)
  · obtain ⟨b, off, ha, hs, hc⟩ := h.block (by omega)
    refine .inr ⟨b, off, ha, Nat.lt_of_lt_of_le hs hw.size, fun j hj => ?_⟩
    have hne : some b ≠ some g := by
      intro e
      injection e with e
      subst e
      have h2 := hc 0 (by omega)
      rw [rblk_cell hg, List.getElem?_eq_getElem (by omega)] at h2
      simp at h2
    rw [World.cell?_of_block (w := w) (a := ⟨b, off + j, none⟩) (hw.block b hs hne)]
    exact hc j hj
/-- 'append' of a row onto the empty row that a drawn statement has laid. -/
def AppE (g m : Nat) (ys : List Int) (w : World) (A' : Option Addr) (c' : Nat) (w' : World) : Prop :=
  m ≤ c' ∧ OwnS g w' A' (vi ys) ∧ w.grownBy w' (some g) ∧ (∀ a, rowOf m A' = some a → a = g ∨ a = w.heap.size)
theorem wp_append_e {o : Oper} {a : Act} {K : Act → World → Prop} {Q : Exit → Act → World → Prop} (f x : Operand)
    (ho : o.op = .call { callee := .builtin .append, args := #[f, x], argTypes := #[26, 26] })
    (g m c : Nat) (ys : List Int) (A : Option Addr) (w : World) (hf : a.eval f = .slice (some ⟨g, 0, none⟩) 0 0) (hx : a.eval x = .slice A m c)
    (hg : w.heap[g]? = some (.cells #[] 3 (0, 0))) (hm : m ≤ 1048576) (hl : ys.length = m) (hr : RdS w A (vi ys))
    (h : ∀ A' c' w', AppE g m ys w A' c' w' → K (a.put o.dst (.slice A' m c')) w') : o.wp Tryz.prog a w K Q := by
  obtain ⟨i0, hi, hz0, hz1, hz2⟩ := info_parts int_info
  have hown : w.ownsRow g 3 1 (.slice (some ⟨g, 0, none⟩) 0 0) 0 (vi []) := ⟨by simp [vi], .inr ⟨g, 0, #[], rfl, Nat.le_refl _, hg, Nat.le_refl _, by simp [maxLen], by simp, by simp [vi]⟩⟩
  have hlt := rblk_lt hg
  have hrun : ∃ v' w', (Builtin.append_ #[26, 26] o.type #[.slice (some ⟨g, 0, none⟩) 0 0, .slice A m c]).run Tryz.prog w = .ok v' w' ∧ w'.ownsRow g 3 1 v' m (vi ys) ∧ w.grownBy w' (some g) ∧ (v'.ownBlock = some g ∨ v'.ownBlock = some w.heap.size) := by
    cases A with
    | none =>
      have hy : ys = [] := by
        rcases hr with hr | ⟨b, off, ha, _⟩
        · cases ys with
          | nil => rfl
          | cons y t => simp [vi] at hr
        · cases ha
      subst hy
      obtain rfl : m = 0 := hl.symm
      exact ⟨_, _, run_app_nil w o.type g 0 c _ [] hown, hown, grown_refl _ _, .inl (by simp [Value.ownBlock])⟩
    | some ad =>
      obtain ⟨v', w', h1, h2, h3, _, h5⟩ := run_append_own_at (P := Tryz.prog) w g 26 o.type 3 i0 _ 1 8 Tryz.underlying26 hi hz0 hz1 hz2 rfl (by decide) _ 0 (vi []) hown ad m c (vi ys) (by rw [vi_length, hl, Nat.mul_one]) (by
        intro j u hu
        have hj : j < (vi ys).length := (List.getElem?_eq_some_iff.1 hu).1
        obtain ⟨b', o', ha, _, hc⟩ := hr.block (by omega)
        injection ha with ha
        subst ha
        rw [add_plain, hc j hj, hu]) (by
        intro u hu
        obtain ⟨y, _, rfl⟩ := List.mem_map.1 hu
        rfl) (by simp only [maxLen]; omega) (by omega) (Nat.le_of_lt hlt)
      rw [Nat.zero_add, show vi [] ++ vi ys = vi ys by simp [vi]] at h2
      exact ⟨v', w', h1, h2, by simpa [Value.ownBlock] using h3, by simpa [Value.ownBlock] using h5⟩
  obtain ⟨v', w', h1, h2, h3, h5⟩ := hrun
  obtain ⟨A', c', hv, hc, _, _⟩ := own_len h2
  subst hv
  have h4 := OwnS.of_own h2
  unfold Oper.wp
  simp [execOp, ho, resolve, invoke, builtin, hf, hx, h1, Result.andThen]
  refine h A' c' w' ⟨hc, h4, h3, fun a ha => ?_⟩
  unfold rowOf at ha
  split at ha
  · cases ha
  · cases A' with
    | none => simp at ha
    | some ad' =>
      simp [Value.ownBlock] at h5
      simp at ha
      omega
theorem step_append_e {ops : Array Oper} {o : Oper} {a : Act} {K : Act → World → Prop} {Q : Exit → Act → World → Prop} {E : Prop} (hgd : o.guard = none) (f x : Operand)
    (ho : o.op = .call { callee := .builtin .append, args := #[f, x], argTypes := #[26, 26] })
    (g m c : Nat) (ys : List Int) (A : Option Addr) (w : World) (hf : a.eval f = .slice (some ⟨g, 0, none⟩) 0 0) (hx : a.eval x = .slice A m c)
    (hg : w.heap[g]? = some (.cells #[] 3 (0, 0))) (hm : m ≤ 1048576) (hl : ys.length = m) (hr : RdS w A (vi ys))
    (h : ∀ A' c' w', AppE g m ys w A' c' w' → K (a.put o.dst (.slice A' m c')) w') :
    if Region.wanted o (yielded ops a.tmps) = true then Oper.wp Tryz.prog o a w K Q else E := by
  have hw : Region.wanted o (yielded ops a.tmps) = true := by simp [Region.wanted, hgd]
  rw [if_pos hw]
  exact wp_append_e f x ho g m c ys A w hf hx hg hm hl hr h
theorem new_drew (w : World) (o : Obj) : (w.alloc o).drew.heap[w.heap.size]? = some o := heap_alloc_new w o
theorem app_done {B3 W0 g m c4 : Nat} {w w4 : World} {l3 : List Int} {ys : List Int} {A3 A4 : Option Addr} (h3 : OwnS B3 w A3 (vi l3)) (hB : W0 ≤ B3) (hg : w.heap[g]? = some (.cells #[] 3 (0, 0))) (h : AppE g m ys w A4 c4 w4) (hW : W0 ≤ g) : OwnS W0 w4 A3 (vi l3) ∧ OwnS W0 w4 A4 (vi ys) ∧ Apart l3.length A3 m A4 :=
  ⟨(h3.grownE hg h.2.2.1).more hB, h.2.1.more hW, fun a ha hb => by
    rcases h.2.2.2 a hb with e | e
    · exact h3.notE (vi_length l3) hg ha e
    · have := (h3.inR (vi_length l3) a ha).2
      omega⟩
theorem OwnS.drew' {B : Nat} {w : World} {A : Option Addr} {l : List Value} (h : OwnS B w A l) : OwnS B w.drew A l := h
theorem tt_a {w w' : World} {o : Obj} (hb : Below (w.alloc o).drew.heap.size (w.alloc o).drew w') : w'.heap[w.heap.size]? = some o ∧ w.heap.size < (w.alloc o).drew.heap.size :=
  ⟨rblk_below (new_drew w o) hb, rblk_lt (new_drew w o)⟩
theorem tt_b {w w' : World} {o : Obj} (hb : Below (w.alloc o).heap.size (w.alloc o) w') : w'.heap[w.heap.size]? = some o ∧ w.heap.size < (w.alloc o).heap.size :=
  ⟨rblk_below (heap_alloc_new w o) hb, rblk_lt (heap_alloc_new w o)⟩
theorem tt_c {w w' : World} {g : Nat} {o : Obj} (tt : w.heap[g]? = some o) (hb : Below w.heap.size w w') : w'.heap[g]? = some o ∧ g < w.heap.size := ⟨rblk_below tt hb, rblk_lt tt⟩
/-- What a drawn statement leaves that lays a struct of a sign and a slice into a new variable. -/
def CutP (W0 : World) (T : TypeId) (s : Bool) (L : List Int) (v : Value) (wx : World) : Prop :=
  ∃ gv A c, v = .pointer (some ⟨gv, 0, none⟩) ∧ W0.heap.size ≤ gv ∧ L.length ≤ c ∧ wx.heap[gv]? = some (.cells #[.bool s, .slice A L.length c] T (0, 0)) ∧ OwnS W0.heap.size wx A (vi L) ∧ Below W0.heap.size W0 wx
/-- The same of a fraction. -/
def CutR (W0 : World) (T : TypeId) (s : Bool) (L M : List Int) (v : Value) (wx : World) : Prop :=
  ∃ gv A c D d, v = .pointer (some ⟨gv, 0, none⟩) ∧ W0.heap.size ≤ gv ∧ L.length ≤ c ∧ M.length ≤ d ∧ wx.heap[gv]? = some (.cells #[.bool s, .slice A L.length c, .slice D M.length d] T (0, 0)) ∧ OwnS W0.heap.size wx A (vi L) ∧ OwnS W0.heap.size wx D (vi M) ∧ Apart L.length A M.length D ∧ Below W0.heap.size W0 wx
end Go.Proofs.YtennekieiioilaaGreat

namespace Go.Proofs.YtennekieiioilaaGreat
open Go.ChangeShapes Go.WideShapes Go.ChangeAt Go.RowKit
open Go.ChangeMaps (open_string shut_string)
set_option linter.unusedVariables false
set_option linter.unusedSimpArgs false
set_option maxRecDepth 4000

def mk2 (a b : Nat) : Int := 1 + (a : Int) + (b : Int)
theorem mk2_pos (a b : Nat) : 0 < mk2 a b := by unfold mk2; omega
theorem cells_of_blk {w : World} {g : Nat} {T : TypeId} {vs : List Value} (h : w.heap[g]? = some (.cells vs.toArray T (0, 0))) : Cells w g vs := fun j v hj => by
  rw [rblk_cell h j]
  simpa using hj
theorem szRat_yes (p : Bool) (A D : Option Addr) (n c k d : Nat) (left : Int) (w : World) (h0 : 0 ≤ left) (h1 : left ≤ 1048576) (h : (n : Int) + (k : Int) ≤ left) :
    Calls Tryz.prog 40 #[.agg #[.bool p, .slice A n c, .slice D k d], .int .i64 left] w fun e w' => e = .returned (.int .i64 (left - (n : Int) - (k : Int))) ∧ Below w.heap.size w w' :=
  (szRat_any p A D n c k d left w h0 h1 (by omega) (by omega)).mono fun e w' hh => ⟨by rw [hh.1, if_pos h], hh.2⟩
theorem szRat_no (p : Bool) (A D : Option Addr) (n c k d : Nat) (left : Int) (w : World) (h0 : 0 ≤ left) (h1 : left ≤ 1048576) (hn : n ≤ 9223372036854775807) (hk : k ≤ 9223372036854775807) (h : ¬ (n : Int) + (k : Int) ≤ left) :
    Calls Tryz.prog 40 #[.agg #[.bool p, .slice A n c, .slice D k d], .int .i64 left] w fun e w' => e = .returned (.int .i64 (-1)) ∧ Below w.heap.size w w' :=
  (szRat_any p A D n c k d left w h0 h1 hn hk).mono fun e w' hh => ⟨by rw [hh.1, if_neg h], hh.2⟩
/-- Answers that are fractions are short. -/
theorem len2 {o : Option Rat} (h : ∀ r, o = some r → Fit r) : (ql o).length ≤ 1048576 ∧ (qd o).length ≤ 1048576 := by
  have := ql_len h
  omega
theorem binQ_len (F : Rat → Rat → Option Rat) (hF : ∀ r s t, Fit r → Fit s → F r s = some t → Fit t) (p q : Bool) (l m l' m' : List Int) : (ql (binQ F (valQ p l m) (valQ q l' m'))).length ≤ 1048576 ∧ (qd (binQ F (valQ p l m) (valQ q l' m'))).length ≤ 1048576 := by
  refine len2 fun t ht => ?_
  cases hx : valQ p l m with
  | none => rw [hx] at ht; cases ht
  | some r =>
    cases hy : valQ q l' m' with
    | none => rw [hx, hy] at ht; cases ht
    | some s =>
      rw [hx, hy] at ht
      exact hF r s t (valQ_fit hx).1 (valQ_fit hy).1 ht
theorem unQ_len (F : Rat → Option Rat) (hF : ∀ r t, Fit r → F r = some t → Fit t) (p : Bool) (l m : List Int) : (ql (unQ F (valQ p l m))).length ≤ 1048576 ∧ (qd (unQ F (valQ p l m))).length ≤ 1048576 := by
  refine len2 fun t ht => ?_
  cases hx : valQ p l m with
  | none => rw [hx] at ht; cases ht
  | some r => rw [hx] at ht; exact hF r t (valQ_fit hx).1 ht
end Go.Proofs.YtennekieiioilaaGreat

namespace Go.Proofs.YtennekieiioilaaGreat
open Go.ChangeShapes Go.WideShapes Go.ChangeAt Go.RowKit Go.Joins
open Go.ChangeMaps (open_string shut_string)
set_option linter.unusedVariables false
set_option linter.unusedSimpArgs false
set_option maxRecDepth 10000

theorem cellsRat : Tryz.prog.cellsOf 65 = 3 := by kernel_rfl
/-- A struct of a struct of a sign and a slice, and a slice, read. -/
theorem openR {H : Type} {enc : TypeId × Value → H} {W : World} {base : Nat} {v : Value} {d : DataW H} {p : List MemPlace}
    (hv : Value.okWide Tryz.prog W .any base 65 v) (h : DataW.Trod enc Tryz.prog W 0 (fun _ => true) true 65 v d p) :
    ∃ (s : Bool) (A D : Option Addr) (n c k e : Nat) (l m : List Int), v = .agg #[.bool s, .slice A n c, .slice D k e] ∧ l.length = n ∧ m.length = k ∧ n ≤ 9223372036854775807 ∧ k ≤ 9223372036854775807 ∧ RdS W A (vi l) ∧ RdS W D (vi m) := by
  obtain ⟨cs, rfl, hsz⟩ := okWide_struct Tryz.underlying65 hv
  obtain ⟨c0, c1, c2, rfl⟩ := array3 (hsz.trans cellsRat)
  obtain ⟨fuel, hf⟩ := h
  obtain ⟨y0, y1, n, hx, _, h0, h1⟩ := trod_struct2 Tryz.underlying65 hf
  have k0 : Tryz.prog.cellsOf 63 = 2 := cellsBig
  have k1 : Tryz.prog.cellsOf 26 = 1 := by kernel_rfl
  obtain ⟨z0, z1, n', hx', _, g0, g1⟩ := trod_struct2 Tryz.underlying63 h0
  have o0 : Tryz.prog.cellsOf 4 = 1 := by kernel_rfl
  have e0 : DataW.trod enc Tryz.prog W 0 (fun _ => true) true n' 4 [c0] = some z0 := by simpa [Value.cells, o0, k0] using g0
  have e1 : DataW.trod enc Tryz.prog W 0 (fun _ => true) true n' 26 [c1] = some z1 := by simpa [Value.cells, o0, k0, k1] using g1
  have e2 : DataW.trod enc Tryz.prog W 0 (fun _ => true) true n 26 [c2] = some y1 := by simpa [Value.cells, o0, k0, k1] using h1
  obtain ⟨b, eb, _⟩ := DataW.trod_bool Tryz.underlying4 e0
  injection eb with eb _
  subst eb
  obtain ⟨A, na, ca, l, rfl, a1, a2, a3⟩ := openedC e1
  obtain ⟨D, nb, cb, m, rfl, b1, b2, b3⟩ := openedC e2
  exact ⟨b, A, D, na, ca, nb, cb, l, m, rfl, a1, b1, a2, b2, a3, b3⟩
end Go.Proofs.YtennekieiioilaaGreat

