/-
  Common words of this seat's proofs: small lemmas on worlds, on strings as lists of bytes, and the row's last steps.
-/
import Derived.Test.YtoknolholccamaaRows
import Derived.WalkKit
import Derived.ProofKit
import Derived.ShutString
import Derived.Lib.Hide
import Derived.Deep.QuietTactic
import Derived.BigQuiet
import Derived.Outline
import Derived.WalkSmall
import Derived.ChangeSlices
import Derived.SliceStrings
import Derived.RegionCalls
import Derived.Deep.RegionWith
import Derived.Deep.RegionHeld3
import Derived.Laws.CopyOwn
namespace Go.Proofs.Ytoknolholccamaa
open Go.ChangeShapes Go.WideShapes Go.ChangeAt Go.RowKit
open Go.ChangeMaps (open_string shut_string)
set_option linter.unusedVariables false
set_option linter.unusedSimpArgs false

theorem own : ownKnob Try.prog.godebug = none := by kernel_rfl

section
variable {H : Type} {enc : TypeId × Value → H} {P : Program}
theorem post_of_below {f : Func} {s : ChangeSpec} {apart fresh handsOn again : Bool} {W W' : World} {args : Array Value} {v : Value} {ds gs : List (DataW H)} {before pa pv : List MemPlace}
    (hW : DataW.Whole enc P f.params.toList s.vars apart W args.toList ds gs before)
    (hres : ∀ (b : Nat) (sp : Nat → Bool) (hd : Bool), DataW.TrodAll enc P W' b sp hd f.resultTypes.toList (v.resultList f.resultTypes.size) (s.fn H (ds ++ gs)).results [])
    (hargs : ∀ sp : Nat → Bool, (∀ p ∈ before, sp p.block = true) → DataW.TrodAll enc P W' 0 sp true f.params.toList args.toList (s.fn H (ds ++ gs)).args pa)
    (hvars : ∀ sp : Nat → Bool, (∀ p ∈ before, sp p.block = true) → DataW.TrodVars enc P W' sp s.vars (s.fn H (ds ++ gs)).vars pv)
    (hps : before = pa ++ pv) (hb : Below W.heap.size W W')
    (hok : ∀ (j : Nat) (t : TypeId) (r : Value), f.resultTypes[j]? = some t → (v.resultList f.resultTypes.size)[j]? = some r → Value.okWide P W' .any 0 t r) :
    s.post enc P f apart fresh handsOn again W args v W' := by
  have hlt : ∀ p ∈ before, p.block < W.heap.size := fun p hp => hW.lt p hp
  have hold : ∀ p ∈ before, (fun b => decide (b < W.heap.size)) p.block = true := fun p hp => by simpa using hlt p hp
  refine ⟨ds, gs, before, [], pa, pv, hW, hres _ _ _, hargs _ hold, hvars _ hold, World.keptBut_mono (fun p hp => ⟨hp, ?_⟩) (hb.frame (· ∈ before)), fun _ => ?_⟩
  · rw [hps, List.mem_append] at hp
    exact Or.inr hp
  · obtain ⟨_, _, _, _, _, hz, hn⟩ := hW
    refine ⟨hok, _, _, ([] ++ pa) ++ pv, ⟨[] ++ pa, pv, trodAll_append (hargs _ (fun _ _ => rfl)) (hres _ _ _), hvars _ (fun _ _ => rfl), rfl, ?_, ?_⟩, ?_⟩
    · intro b off hp
      have hin : MemPlace.cell b off ∈ before := by rw [hps]; simpa using hp
      rw [hb.frozen (hlt _ hin)]
      exact hz b off hin
    · intro ha
      have := hn ha
      rw [hps] at this
      simpa using this
    · intro p hp _
      rw [hps]
      simpa using hp
end

/-- A string iterator's block is new: below it nothing has turned. -/
theorem below_iter {B : Nat} {a w : World} (h : Below B a w) (hB : B ≤ w.heap.size) (s : ByteArray) (pos : Nat) : Below B a (w.iter s pos) := h.alloc hB _
theorem below_drewN {B : Nat} {a w : World} (h : Below B a w) (n : Nat) : Below B a (w.drewN n) := ⟨h.os, h.tape, h.output, h.size, h.block⟩

theorem width_pos (s : ByteArray) (pos : Nat) (h : pos < s.size) : 1 ≤ (Utf8.decode s pos).2 := by
  by_cases ha : (s[pos]'h).toNat < 128
  · rw [decode_ascii s pos h ha]
    exact Nat.le_refl _
  · exact (decode_high s pos h (by omega)).2
theorem isEmpty_pos {s : ByteArray} (h : 0 < s.size) : s.toList.isEmpty = false := by
  rw [ByteArray.toList_eq, List.isEmpty_eq_false_iff]
  intro e
  have : s.data.toList.length = 0 := by rw [e]; rfl
  have h2 : s.data.toList.length = s.size := by simp
  omega
theorem isEmpty_zero {s : ByteArray} (h : ¬ 0 < s.size) : s.toList.isEmpty = true := by
  rw [ByteArray.toList_eq, List.isEmpty_iff]
  have h2 : s.data.toList.length = s.size := by simp
  exact List.eq_nil_of_length_eq_zero (by omega)
end Go.Proofs.Ytoknolholccamaa

namespace Go.Proofs.Ytoknolholccamaa
open Go.ChangeShapes Go.WideShapes Go.ChangeAt Go.RowKit
open Go.ChangeMaps (open_string shut_string)
set_option linter.unusedVariables false
set_option linter.unusedSimpArgs false

/-- The slice that begins at A reads as the values l. -/
def RdS (w : World) (A : Option Addr) (l : List Value) : Prop :=
  l = [] ∨ ∃ b off, A = some ⟨b, off, none⟩ ∧ b < w.heap.size ∧ ∀ j, j < l.length → w.cell? ⟨b, off + j, none⟩ = l[j]?
/-- The slice that begins at A is a row of the call's own, in a block from B on; it reads as the values l and may be written. -/
def OwnS (B : Nat) (w : World) (A : Option Addr) (l : List Value) : Prop :=
  l = [] ∨ ∃ g, A = some ⟨g, 0, none⟩ ∧ B ≤ g ∧ g < w.heap.size ∧ (∀ j, j < l.length → w.cell? ⟨g, j, none⟩ = l[j]?) ∧ ∀ j, j < l.length → w.frozen? ⟨g, j, none⟩ = false

theorem OwnS.rd {B : Nat} {w : World} {A : Option Addr} {l : List Value} (h : OwnS B w A l) : RdS w A l := by
  rcases h with h | ⟨g, ha, _, hs, hc, _⟩
  · exact .inl h
  · exact .inr ⟨g, 0, ha, hs, fun j hj => by rw [Nat.zero_add]; exact hc j hj⟩
theorem RdS.below {w w' : World} {A : Option Addr} {l : List Value} (h : RdS w A l) (hb : Below w.heap.size w w') : RdS w' A l := by
  rcases h with h | ⟨b, off, ha, hs, hc⟩
  · exact .inl h
  · exact .inr ⟨b, off, ha, Nat.lt_of_lt_of_le hs hb.size, fun j hj => by rw [hb.cell (p := ⟨b, off + j, none⟩) hs]; exact hc j hj⟩
theorem OwnS.below {B : Nat} {w w' : World} {A : Option Addr} {l : List Value} (h : OwnS B w A l) (hb : Below w.heap.size w w') : OwnS B w' A l := by
  rcases h with h | ⟨g, ha, hB, hs, hc, hf⟩
  · exact .inl h
  · refine .inr ⟨g, ha, hB, Nat.lt_of_lt_of_le hs hb.size, fun j hj => ?_, fun j hj => ?_⟩
    · rw [hb.cell (p := ⟨g, j, none⟩) hs]; exact hc j hj
    · rw [hb.frozen (p := ⟨g, j, none⟩) hs]; exact hf j hj
/-- A row from B on is untouched where only blocks below B have turned. -/
theorem OwnS.far {B C : Nat} {w w' : World} {A : Option Addr} {l : List Value} (h : OwnS B w A l) (hk : ∀ k, B ≤ k → k < C → w'.heap[k]? = w.heap[k]?) (hC : w.heap.size ≤ C) (hz : w.heap.size ≤ w'.heap.size) : OwnS B w' A l := by
  rcases h with h | ⟨g, ha, hB, hs, hc, hf⟩
  · exact .inl h
  · have hg := hk g hB (by omega)
    refine .inr ⟨g, ha, hB, by omega, fun j hj => ?_, fun j hj => ?_⟩
    · rw [World.cell?_of_block (w := w) (a := ⟨g, j, none⟩) hg]; exact hc j hj
    · rw [World.frozen?_of_block (w := w) (a := ⟨g, j, none⟩) hg]; exact hf j hj
theorem RdS.lt_block {w : World} {A : Option Addr} {l : List Value} (h : RdS w A l) {w' : World} {C : Nat} (hA : ∀ b off, A = some ⟨b, off, none⟩ → b < C) (hb : Below C w w') : RdS w' A l := by
  rcases h with h | ⟨b, off, ha, hs, hc⟩
  · exact .inl h
  · exact .inr ⟨b, off, ha, Nat.lt_of_lt_of_le hs hb.size, fun j hj => by rw [hb.cell (p := ⟨b, off + j, none⟩) (hA _ _ ha)]; exact hc j hj⟩
/-- What append's laws leave. -/
theorem OwnS.of_own {w : World} {base : Nat} {e : TypeId} {A : Option Addr} {n c : Nat} {l : List Value} (h : w.ownsRow base e 1 (.slice A n c) n l) : OwnS base w A l := by
  by_cases h0 : l = []
  · exact .inl h0
  · have hn : 0 < n := by
      have := h.1
      rcases Nat.eq_zero_or_pos n with h1 | h1
      · subst h1; simp at this; exact absurd this h0
      · exact h1
    have hl : l.length = n := by have := h.1; omega
    rcases h.2 with ⟨_, he⟩ | ⟨g, cap, cur, hv, hbg, hh, hnc, _, hsz, htake⟩
    · omega
    · have hA : A = some ⟨g, 0, none⟩ := by injection hv
      refine .inr ⟨g, hA, hbg, (Array.getElem?_eq_some_iff.1 hh).1, fun j hj => ?_, fun j hj => ?_⟩
      · rw [cell_of_row w g j cur e (0, 0) hh, ← htake, List.getElem?_take, if_pos (by omega)]
        simp
      · simp [World.frozen?, hh]
theorem own_len {w : World} {base : Nat} {e : TypeId} {v : Value} {n : Nat} {l : List Value} (h : w.ownsRow base e 1 v n l) : ∃ A c, v = .slice A n c ∧ n ≤ c ∧ c ≤ maxLen ∧ l.length = n := by
  have hl := h.1
  rcases h.2 with ⟨hv, hn⟩ | ⟨g, cap, cur, hv, hbg, hh, hnc, hm, hsz, htake⟩
  · exact ⟨none, 0, by rw [hv, hn], by omega, by simp [maxLen], by omega⟩
  · exact ⟨some ⟨g, 0, none⟩, cap, hv, hnc, hm, by omega⟩
/-- The block of a row that is not empty. -/
theorem OwnS.block {B : Nat} {w : World} {A : Option Addr} {l : List Value} (h : OwnS B w A l) (h0 : 0 < l.length) : ∃ g, A = some ⟨g, 0, none⟩ ∧ B ≤ g ∧ g < w.heap.size ∧ (∀ j, j < l.length → w.cell? ⟨g, j, none⟩ = l[j]?) ∧ ∀ j, j < l.length → w.frozen? ⟨g, j, none⟩ = false := by
  rcases h with h | h
  · subst h; simp at h0
  · exact h
theorem RdS.block {w : World} {A : Option Addr} {l : List Value} (h : RdS w A l) (h0 : 0 < l.length) : ∃ b off, A = some ⟨b, off, none⟩ ∧ b < w.heap.size ∧ ∀ j, j < l.length → w.cell? ⟨b, off + j, none⟩ = l[j]? := by
  rcases h with h | h
  · subst h; simp at h0
  · exact h
/-- A prefix of a row. -/
theorem OwnS.take {B : Nat} {w : World} {A : Option Addr} {l : List Value} (h : OwnS B w A l) (k : Nat) : OwnS B w A (l.take k) := by
  rcases h with h | ⟨g, ha, hB, hs, hc, hf⟩
  · exact .inl (by rw [h, List.take_nil])
  · refine .inr ⟨g, ha, hB, hs, fun j hj => ?_, fun j hj => ?_⟩
    · rw [List.length_take] at hj
      rw [hc j (by omega), List.getElem?_take, if_pos (by omega)]
    · rw [List.length_take] at hj
      exact hf j (by omega)
theorem OwnS.more {B B' : Nat} {w : World} {A : Option Addr} {l : List Value} (h : OwnS B w A l) (hB : B' ≤ B) : OwnS B' w A l := by
  rcases h with h | ⟨g, ha, hb, hs, hc, hf⟩
  · exact .inl h
  · exact .inr ⟨g, ha, by omega, hs, hc, hf⟩

/-- The strings of a list, as values. -/
def vs (l : List ByteArray) : List Value := l.map Value.string
theorem vs_length (l : List ByteArray) : (vs l).length = l.length := by simp [vs]
theorem vs_get {l : List ByteArray} {k : Nat} (h : k < l.length) : (vs l)[k]? = some (.string l[k]) := by simp [vs, h]
theorem vs_append (l m : List ByteArray) : vs (l ++ m) = vs l ++ vs m := by simp [vs]
theorem vs_take (l : List ByteArray) (k : Nat) : vs (l.take k) = (vs l).take k := by simp [vs]
/-- The first k elements agree. -/
def AgreeTo (l m : List ByteArray) (k : Nat) : Prop := ∀ j, j < k → l[j]? = m[j]?
theorem AgreeTo.zero (l m : List ByteArray) : AgreeTo l m 0 := fun _ h => absurd h (by omega)
theorem AgreeTo.succ {l m : List ByteArray} {k : Nat} (h : AgreeTo l m k) (h1 : l[k]? = m[k]?) : AgreeTo l m (k + 1) := fun j hj => by
  rcases Nat.lt_or_ge j k with h2 | h2
  · exact h j h2
  · obtain rfl : j = k := by omega
    exact h1
theorem AgreeTo.all {l m : List ByteArray} (h : AgreeTo l m l.length) (hl : l.length = m.length) : l = m := by
  apply List.ext_getElem?
  intro j
  rcases Nat.lt_or_ge j l.length with h2 | h2
  · exact h j h2
  · rw [List.getElem?_eq_none h2, List.getElem?_eq_none (by omega)]

theorem grown_trans_below {w w1 w2 : World} {row : Option Nat} (h : w.grownBy w1 row) (k : Below w1.heap.size w1 w2) : w.grownBy w2 row :=
  ⟨k.os.trans h.os, k.tape.trans h.tape, k.output.trans h.output, Nat.le_trans h.size k.size, fun i hi hne => (k.block i (Nat.lt_of_lt_of_le hi h.size)).trans (h.block i hi hne)⟩
theorem grown_setCell {w w1 : World} {g : Nat} (h : w.grownBy w1 (some g)) (o : Nat) (u : Value) : w.grownBy (w1.setCell ⟨g, o, none⟩ u) (some g) :=
  ⟨h.os, h.tape, h.output, by simpa [World.setCell] using h.size, fun i hi hne => (Below.heap_setCell w1 ⟨g, o, none⟩ u i (by rintro rfl; exact hne rfl)).trans (h.block i hi hne)⟩
theorem grown_refl (w : World) (row : Option Nat) : w.grownBy w row := ⟨rfl, rfl, rfl, Nat.le_refl _, fun _ _ _ => rfl⟩
/-- Only blocks from B on have turned. -/
theorem below_of_grown {B : Nat} {w w' : World} {row : Option Nat} (h : w.grownBy w' row) (hB : B ≤ w.heap.size) (hr : ∀ g, row = some g → B ≤ g) : Below B w w' := (Below.refl _ _).grown h hB hr

/-- The block that a row of n places at A lies in. -/
def rowOf (n : Nat) (A : Option Addr) : Option Nat := if n = 0 then none else A.map (·.block)
/-- A row of n places at A while its first i places are being written: what f says stands there; the others hold something; all may be written. -/
def Filling (B : Nat) (w wr : World) (A : Option Addr) (n : Nat) (f : Nat → Value) (i : Nat) : Prop :=
  w.grownBy wr (rowOf n A) ∧ (n = 0 ∨ ∃ g, A = some ⟨g, 0, none⟩ ∧ B ≤ g ∧ g < wr.heap.size ∧ (∀ j, j < n → wr.frozen? ⟨g, j, none⟩ = false) ∧ (∀ j, j < i → wr.cell? ⟨g, j, none⟩ = some (f j)) ∧ ∀ j, j < n → ∃ u, wr.cell? ⟨g, j, none⟩ = some u)
theorem Filling.start {B : Nat} {w : World} {A : Option Addr} {l : List Value} {n : Nat} (h : OwnS B w A l) (hl : l.length = n) (f : Nat → Value) : Filling B w w A n f 0 := by
  refine ⟨grown_refl _ _, ?_⟩
  rcases h with h | ⟨g, ha, hB, hs, hc, hf⟩
  · left; subst h; simpa using hl.symm
  · refine .inr ⟨g, ha, hB, hs, fun j hj => hf j (by omega), fun j hj => absurd hj (by omega), fun j hj => ⟨l[j]'(by omega), ?_⟩⟩
    rw [hc j (by omega), List.getElem?_eq_getElem (by omega)]
theorem Filling.below {B : Nat} {w wr w1 : World} {A : Option Addr} {n i : Nat} {f : Nat → Value} (h : Filling B w wr A n f i) (hb : Below wr.heap.size wr w1) : Filling B w w1 A n f i := by
  obtain ⟨hg, hr⟩ := h
  refine ⟨grown_trans_below hg hb, ?_⟩
  rcases hr with hr | ⟨g, ha, hB, hs, hf, hc, he⟩
  · exact .inl hr
  · refine .inr ⟨g, ha, hB, Nat.lt_of_lt_of_le hs hb.size, fun j hj => ?_, fun j hj => ?_, fun j hj => ?_⟩
    · rw [hb.frozen (p := ⟨g, j, none⟩) hs]; exact hf j hj
    · rw [hb.cell (p := ⟨g, j, none⟩) hs]; exact hc j hj
    · rw [hb.cell (p := ⟨g, j, none⟩) hs]; exact he j hj
theorem Filling.at_ {B : Nat} {w wr : World} {A : Option Addr} {n i : Nat} {f : Nat → Value} (h : Filling B w wr A n f i) (hi : i < n) : ∃ g u, A = some ⟨g, 0, none⟩ ∧ g < wr.heap.size ∧ wr.cell? ⟨g, i, none⟩ = some u ∧ wr.frozen? ⟨g, i, none⟩ = false := by
  obtain ⟨_, hr⟩ := h
  rcases hr with hr | ⟨g, ha, _, hs, hf, _, he⟩
  · omega
  · obtain ⟨u, hu⟩ := he i hi
    exact ⟨g, u, ha, hs, hu, hf i hi⟩
theorem Filling.step {B : Nat} {w wr : World} {g : Nat} {n i : Nat} {f : Nat → Value} (h : Filling B w wr (some ⟨g, 0, none⟩) n f i) (hi : i < n) {x : Value} (hx : x = f i) : Filling B w (wr.setCell ⟨g, i, none⟩ x) (some ⟨g, 0, none⟩) n f (i + 1) := by
  obtain ⟨hg, hr⟩ := h
  have hrow : rowOf n (some ⟨g, 0, none⟩) = some g := by rw [rowOf, if_neg (by omega)]; rfl
  rw [hrow] at hg
  refine ⟨by rw [hrow]; exact grown_setCell hg i x, ?_⟩
  rcases hr with hr | ⟨g', ha, hB, hs, hf, hc, he⟩
  · omega
  · obtain rfl : g = g' := by injection ha with e; injection e
    have hsome : ∀ j, j < n → ∀ u, wr.cell? ⟨g, j, none⟩ = some u → (wr.setCell ⟨g, i, none⟩ x).cell? ⟨g, j, none⟩ = some (if j = i then x else u) := by
      intro j hj u hu
      by_cases e : j = i
      · subst e
        rw [if_pos rfl]
        exact World.cell?_setCell_same wr ⟨g, j, none⟩ x hu
      · rw [if_neg e, World.cell?_setCell_other wr ⟨g, i, none⟩ ⟨g, j, none⟩ x (by intro q; injection q with _ q2; exact e q2.symm)]
        exact hu
    refine .inr ⟨g, rfl, hB, by simpa [World.setCell] using hs, fun j hj => ?_, fun j hj => ?_, fun j hj => ?_⟩
    · rw [World.frozen?_setCell]; exact hf j hj
    · by_cases e : j = i
      · subst e
        obtain ⟨u, hu⟩ := he j hi
        rw [hsome j hi u hu, if_pos rfl, hx]
      · rw [hsome j (by omega) _ (hc j (by omega)), if_neg e]
    · obtain ⟨u, hu⟩ := he j hj
      exact ⟨_, hsome j hj u hu⟩
theorem Filling.done {B : Nat} {w wr : World} {A : Option Addr} {n : Nat} {f : Nat → Value} (h : Filling B w wr A n f n) : OwnS B wr A ((List.range n).map f) := by
  obtain ⟨_, hr⟩ := h
  rcases hr with hr | ⟨g, ha, hB, hs, hf, hc, he⟩
  · left; subst hr; rfl
  · exact .inr ⟨g, ha, hB, hs, fun j hj => by
      have hj' : j < n := by simpa using hj
      rw [hc j hj']; simp [hj'], fun j hj => hf j (by simpa using hj)⟩

theorem OwnS.row {B : Nat} {w : World} {A : Option Addr} {l : List Value} (h : OwnS B w A l) : ∀ g, rowOf l.length A = some g → B ≤ g := by
  intro g hg
  unfold rowOf at hg
  rcases h with h | ⟨g', ha, hB, _⟩
  · subst h; simp at hg
  · subst ha
    split at hg
    · cases hg
    · simp at hg; omega
end Go.Proofs.Ytoknolholccamaa

namespace Go.Proofs.Ytoknolholccamaa
set_option linter.unusedVariables false
set_option linter.unusedSimpArgs false

/-- The power of the base with exponent i. -/
def pw (i : Nat) : Int := 1000000000 ^ i
theorem pw_zero : pw 0 = 1 := rfl
theorem pw_succ (i : Nat) : pw (i + 1) = pw i * 1000000000 := by unfold pw; rw [Int.pow_succ]
theorem pw_pos (i : Nat) : 0 < pw i := by unfold pw; exact Int.pow_pos (by decide)
theorem pw_ne (i : Nat) : pw i ≠ 0 := by have := pw_pos i; omega
theorem pw_add (i j : Nat) : pw (i + j) = pw i * pw j := by unfold pw; rw [Int.pow_add]
theorem le_mul_pos {a b : Int} (ha : 0 < a) (hb : 0 < b) : a ≤ a * b := by
  have := Int.mul_le_mul_of_nonneg_left (show 1 ≤ b by omega) (Int.le_of_lt ha)
  rw [Int.mul_one] at this
  exact this
theorem pw_le {i j : Nat} (h : i ≤ j) : pw i ≤ pw j := by
  obtain ⟨k, rfl⟩ := Nat.exists_eq_add_of_le h
  rw [pw_add]
  exact le_mul_pos (pw_pos i) (pw_pos k)

/-- Digit i of T in the base: also of a negative T (as if it had a row of the highest digits without end). -/
def dgt (T : Int) (i : Nat) : Int := T / pw i % 1000000000
theorem dgt_nonneg (T : Int) (i : Nat) : 0 ≤ dgt T i := Int.emod_nonneg _ (by decide)
theorem dgt_lt (T : Int) (i : Nat) : dgt T i < 1000000000 := Int.emod_lt_of_pos _ (by decide)
theorem div_succ (T : Int) (i : Nat) : T / pw (i + 1) = T / pw i / 1000000000 := by
  rw [pw_succ, Int.ediv_ediv_of_nonneg (Int.le_of_lt (pw_pos i))]
theorem div_split (T : Int) (i : Nat) : T / pw i = T / pw (i + 1) * 1000000000 + dgt T i := by
  rw [div_succ]
  unfold dgt
  have := Int.mul_ediv_add_emod (T / pw i) 1000000000
  omega
theorem mod_succ (T : Int) (i : Nat) : T % pw (i + 1) = T % pw i + dgt T i * pw i := by
  have h1 := Int.mul_ediv_add_emod T (pw (i + 1))
  have h2 := Int.mul_ediv_add_emod T (pw i)
  have h3 := div_split T i
  rw [h3, Int.mul_add] at h2
  rw [pw_succ] at h1 ⊢
  rw [Int.mul_comm (dgt T i)]
  have h4 : pw i * (T / pw (i + 1) * 1000000000) = pw i * 1000000000 * (T / (pw i * 1000000000)) := by
    rw [pw_succ, Int.mul_comm (T / _), Int.mul_assoc]
  rw [h4] at h2
  omega
theorem mod_zero (T : Int) : T % pw 0 = 0 := by rw [pw_zero]; exact Int.emod_one T
theorem div_zero (T : Int) : T / pw 0 = T := by rw [pw_zero]; exact Int.ediv_one T
theorem mod_nonneg (T : Int) (i : Nat) : 0 ≤ T % pw i := Int.emod_nonneg _ (pw_ne i)
theorem mod_lt (T : Int) (i : Nat) : T % pw i < pw i := Int.emod_lt_of_pos _ (pw_pos i)
theorem mod_self_of {T : Int} {i : Nat} (h0 : 0 ≤ T) (h : T < pw i) : T % pw i = T := Int.emod_eq_of_lt h0 h
theorem div_small {T : Int} {i : Nat} (h0 : 0 ≤ T) (h : T < pw i) : T / pw i = 0 := Int.ediv_eq_zero_of_lt h0 h
theorem dgt_small {T : Int} {n i : Nat} (h0 : 0 ≤ T) (h : T < pw n) (hi : n ≤ i) : dgt T i = 0 := by
  unfold dgt
  rw [div_small h0 (Int.lt_of_lt_of_le h (pw_le hi))]
  rfl
theorem dgt_shift (T : Int) (i j : Nat) : dgt (T / pw i) j = dgt T (i + j) := by
  unfold dgt
  rw [pw_add, Int.ediv_ediv_of_nonneg (Int.le_of_lt (pw_pos i))]
/-- Digits hang on the rest alone. -/
theorem dgt_congr {T U : Int} {n i : Nat} (h : T % pw n = U % pw n) (hi : i < n) : dgt T i = dgt U i := by
  have key : ∀ X : Int, dgt X i = dgt (X % pw n) i := by
    intro X
    obtain ⟨k, rfl⟩ := Nat.exists_eq_add_of_le (show i + 1 ≤ n by omega)
    have h1 := Int.mul_ediv_add_emod X (pw (i + 1 + k))
    unfold dgt
    conv => lhs; rw [← h1]
    have h2 : ∀ Y : Int, pw (i + 1 + k) * Y = (1000000000 * (pw k * Y)) * pw i := by
      intro Y
      rw [pw_add, pw_succ, Int.mul_assoc, Int.mul_assoc, Int.mul_comm (pw i)]
    rw [h2, Int.add_comm, Int.add_mul_ediv_right _ _ (pw_ne i), Int.add_mul_emod_self_left]
  rw [key T, key U, h]
theorem mod_of_dgt {T U : Int} : ∀ {n : Nat}, (∀ i, i < n → dgt T i = dgt U i) → T % pw n = U % pw n
  | 0, _ => by rw [mod_zero, mod_zero]
  | n + 1, h => by rw [mod_succ, mod_succ, mod_of_dgt (fun i hi => h i (by omega)), h n (by omega)]

/-- The lowest n digits. -/
def row (n : Nat) (T : Int) : List Int := (List.range n).map (dgt T)
theorem row_length (n : Nat) (T : Int) : (row n T).length = n := by simp [row]
theorem row_get {n i : Nat} (T : Int) (h : i < n) : (row n T)[i]? = some (dgt T i) := by simp [row, h]
theorem row_congr {n : Nat} {T U : Int} (h : T % pw n = U % pw n) : row n T = row n U := by
  apply List.map_congr_left
  intro i hi
  exact dgt_congr h (by simpa using hi)
theorem row_take {n m : Nat} (T : Int) (h : m ≤ n) : (row n T).take m = row m T := by
  unfold row
  rw [← List.map_take, List.take_range, Nat.min_eq_left h]
theorem row_cons (n : Nat) (T : Int) : row (n + 1) T = T % 1000000000 :: row n (T / 1000000000) := by
  unfold row
  rw [List.range_succ_eq_map, List.map_cons, List.map_map]
  congr 1
  · unfold dgt; rw [pw_zero, Int.ediv_one]
  · apply List.map_congr_left
    intro i _
    have := dgt_shift T 1 i
    rw [show pw 1 = 1000000000 from rfl] at this
    rw [this, Nat.add_comm]
    rfl
theorem row_inj {n : Nat} {T U : Int} (hT : 0 ≤ T) (hT' : T < pw n) (hU : 0 ≤ U) (hU' : U < pw n) (h : row n T = row n U) : T = U := by
  have : T % pw n = U % pw n := mod_of_dgt (fun i hi => by
    have h1 := row_get T hi
    have h2 := row_get U hi
    rw [h, h2] at h1
    injection h1 with h1
    exact h1.symm)
  rwa [mod_self_of hT hT', mod_self_of hU hU'] at this

/-- The number of digits. -/
def ln (v : Nat) : Nat := if h : v = 0 then 0 else ln (v / 1000000000) + 1
termination_by v
decreasing_by omega
theorem ln_zero : ln 0 = 0 := by rw [ln]; rfl
theorem ln_pos {v : Nat} (h : 0 < v) : ln v = ln (v / 1000000000) + 1 := by rw [ln, dif_neg (by omega)]
theorem ln_lt (v : Nat) : (v : Int) < pw (ln v) := by
  induction v using Nat.strongRecOn with
  | _ v ih =>
    by_cases h : 0 < v
    · have := ih (v / 1000000000) (by omega)
      rw [ln_pos h, pw_succ]
      omega
    · obtain rfl : v = 0 := by omega
      rw [ln_zero]
      decide
theorem ln_ge (v : Nat) (h : 0 < v) : pw (ln v - 1) ≤ v := by
  induction v using Nat.strongRecOn with
  | _ v ih =>
    rw [ln_pos h, Nat.add_sub_cancel]
    by_cases h1 : 0 < v / 1000000000
    · have h2 := ih (v / 1000000000) (by omega) h1
      rw [ln_pos h1, Nat.add_sub_cancel] at h2
      rw [ln_pos h1, pw_succ]
      omega
    · rw [show v / 1000000000 = 0 by omega, ln_zero]
      rw [pw_zero]
      omega
theorem ln_le_iff {v n : Nat} : ln v ≤ n ↔ (v : Int) < pw n := by
  constructor
  · intro h; exact Int.lt_of_lt_of_le (ln_lt v) (pw_le h)
  · intro h
    by_cases h0 : 0 < v
    · rcases Nat.lt_or_ge n (ln v) with h1 | h1
      · have h2 := ln_ge v h0
        have h3 := pw_le (show n ≤ ln v - 1 by omega)
        omega
      · exact h1
    · obtain rfl : v = 0 := by omega
      rw [ln_zero]; exact Nat.zero_le _
theorem ln_eq_zero {v : Nat} : ln v = 0 ↔ v = 0 := by
  constructor
  · intro h
    by_cases h0 : 0 < v
    · rw [ln_pos h0] at h; omega
    · omega
  · rintro rfl; exact ln_zero
theorem ln_mono {u v : Nat} (h : u ≤ v) : ln u ≤ ln v := ln_le_iff.2 (by have := ln_lt v; omega)
/-- The row has no digit above: one step of the loop that cuts zeros. -/
theorem trim_step {v n : Nat} (hn : 0 < n) (hv : ln v ≤ n) (h0 : dgt v (n - 1) = 0) : ln v ≤ n - 1 := by
  rw [ln_le_iff] at hv ⊢
  have h1 := div_split v (n - 1)
  rw [h0, Nat.sub_add_cancel hn, div_small (by omega) hv] at h1
  have h2 := Int.mul_ediv_add_emod (v : Int) (pw (n - 1))
  rw [h1] at h2
  have h3 := mod_lt v (n - 1)
  omega
theorem trim_stop {v n : Nat} (hn : 0 < n) (hv : ln v ≤ n) (h0 : dgt v (n - 1) ≠ 0) : ln v = n := by
  rcases Nat.lt_or_ge (ln v) n with h | h
  · exact absurd (dgt_small (n := ln v) (by omega) (ln_lt v) (by omega)) h0
  · omega
theorem top_ne {v : Nat} (h : 0 < v) : dgt v (ln v - 1) ≠ 0 := by
  have hl : 0 < ln v := by rw [ln_pos h]; omega
  intro e
  have := trim_step hl (Nat.le_refl _) e
  omega

/-- The digits of v, none of them a zero at the end. -/
def nd (v : Nat) : List Int := row (ln v) v
theorem nd_length (v : Nat) : (nd v).length = ln v := row_length _ _
theorem nd_zero : nd 0 = [] := by unfold nd; rw [ln_zero]; rfl
theorem nd_get {v i : Nat} (h : i < ln v) : (nd v)[i]? = some (dgt v i) := row_get _ h
theorem nd_inj {u v : Nat} (h : nd u = nd v) : u = v := by
  have hl : ln u = ln v := by rw [← nd_length, ← nd_length, h]
  have h1 : row (ln u) u = row (ln u) v := by
    show nd u = _
    rw [h, hl]
    rfl
  have := row_inj (n := ln u) (by omega) (ln_lt u) (by omega) (by rw [hl]; exact ln_lt v) h1
  omega

/-- Every element is a digit. -/
def Digs (l : List Int) : Prop := ∀ x ∈ l, 0 ≤ x ∧ x < 1000000000
/-- The value of a list of digits. -/
def val : List Int → Nat
  | [] => 0
  | x :: l => x.toNat + 1000000000 * val l
theorem row_val : ∀ (l : List Int), Digs l → row l.length (val l) = l ∧ (val l : Int) < pw l.length
  | [], _ => ⟨rfl, by decide⟩
  | x :: l, h => by
    obtain ⟨h1, h2⟩ := row_val l (fun y hy => h y (List.mem_cons_of_mem _ hy))
    have hx := h x List.mem_cons_self
    have hv : ((val (x :: l) : Nat) : Int) = x + 1000000000 * (val l : Int) := by
      show ((x.toNat + 1000000000 * val l : Nat) : Int) = _
      omega
    constructor
    · rw [List.length_cons, row_cons, hv]
      congr 1
      · omega
      · rw [show (x + 1000000000 * (val l : Int)) / 1000000000 = (val l : Int) by omega]
        exact h1
    · rw [hv, List.length_cons, pw_succ]
      omega
/-- What 'NatOk' asks. -/
def ok (l : List Int) : Bool := decide (l.length ≤ 60) && (l.all fun x => decide (0 ≤ x) && decide (x < 1000000000)) && (decide (l = []) || decide (l.getD (l.length - 1) 0 ≠ 0))
theorem ok_nd {l : List Int} (h : ok l = true) : ∃ v, l = nd v ∧ ln v ≤ 60 := by
  unfold ok at h
  simp only [Bool.and_eq_true, Bool.or_eq_true, decide_eq_true_eq, List.all_eq_true] at h
  obtain ⟨⟨h1, h2⟩, h3⟩ := h
  obtain ⟨h4, h5⟩ := row_val l h2
  have h6 : ln (val l) = l.length := by
    by_cases h0 : l = []
    · subst h0; exact ln_zero
    · have hl : 0 < l.length := List.length_pos_iff.2 h0
      refine trim_stop hl (ln_le_iff.2 h5) ?_
      have h7 := row_get (n := l.length) (val l) (show l.length - 1 < l.length by omega)
      rw [h4] at h7
      rcases h3 with h3 | h3
      · exact absurd h3 h0
      · rw [List.getD_eq_getElem?_getD, h7] at h3
        exact h3
  exact ⟨val l, by unfold nd; rw [h6, h4], by omega⟩
theorem nd_ok {v : Nat} (h : ln v ≤ 60) : ok (nd v) = true := by
  unfold ok
  simp only [Bool.and_eq_true, Bool.or_eq_true, decide_eq_true_eq, List.all_eq_true]
  refine ⟨⟨by rw [nd_length]; exact h, fun x hx => ?_⟩, ?_⟩
  · obtain ⟨i, _, rfl⟩ := List.mem_map.1 hx
    exact ⟨dgt_nonneg _ _, dgt_lt _ _⟩
  · by_cases h0 : 0 < v
    · right
      have hl : 0 < ln v := by rw [ln_pos h0]; omega
      rw [nd_length, List.getD_eq_getElem?_getD, nd_get (by omega)]
      exact top_ne h0
    · left
      obtain rfl : v = 0 := by omega
      exact nd_zero
theorem nd_ok_iff (v : Nat) : ok (nd v) = decide (ln v ≤ 60) := by
  by_cases h : ln v ≤ 60
  · rw [nd_ok h, decide_eq_true h]
  · rw [decide_eq_false h]
    unfold ok
    rw [nd_length, decide_eq_false h]
    rfl

/-- The answer of the operations: nothing if it would be too long. -/
def cap60 (v : Nat) : List Int := if ln v ≤ 60 then nd v else []

/-! Order. -/
def cmpN (a b : Nat) : Int := if a < b then -1 else if b < a then 1 else 0
theorem cmp_len_lt {a b : Nat} (h : ln a < ln b) : a < b := by
  rcases Nat.lt_or_ge a b with h1 | h1
  · exact h1
  · have := ln_mono h1
    omega
theorem cmp_at {a b : Nat} {i : Nat} (he : (a : Int) / pw (i + 1) = (b : Int) / pw (i + 1)) (hd : dgt a i < dgt b i) : a < b := by
  have h1 := div_split a i
  have h2 := div_split b i
  rcases Nat.lt_or_ge a b with h | h
  · exact h
  · have h3 : (b : Int) / pw i ≤ (a : Int) / pw i := Int.ediv_le_ediv (pw_pos i) (by omega)
    omega
theorem cmp_eq {a b : Nat} {i : Nat} (he : (a : Int) / pw (i + 1) = (b : Int) / pw (i + 1)) (hd : dgt a i = dgt b i) : (a : Int) / pw i = (b : Int) / pw i := by
  rw [div_split a i, div_split b i, he, hd]
theorem cmp_start {a b : Nat} (h : ln a = ln b) : (a : Int) / pw (ln a) = (b : Int) / pw (ln a) := by
  rw [div_small (by omega) (ln_lt a), div_small (by omega) (by rw [h]; exact ln_lt b)]
theorem cmp_end {a b : Nat} (he : (a : Int) / pw 0 = (b : Int) / pw 0) : a = b := by
  rw [div_zero, div_zero] at he; omega

/-! One pass over a row: 'v + f w' digit by digit. -/
/-- The carry ahead of digit i. -/
def car (v w f : Int) (i : Nat) : Int := (v % pw i + f * (w % pw i)) / pw i
theorem car_zero (v w f : Int) : car v w f 0 = 0 := by unfold car; rw [mod_zero, mod_zero, Int.mul_zero, pw_zero]; rfl
theorem pass_split (v w f : Int) (i : Nat) : (v % pw (i + 1) + f * (w % pw (i + 1))) / pw i = car v w f i + dgt v i + f * dgt w i := by
  rw [mod_succ, mod_succ, Int.mul_add, ← Int.mul_assoc]
  rw [show v % pw i + dgt v i * pw i + (f * (w % pw i) + f * dgt w i * pw i) = (v % pw i + f * (w % pw i)) + (dgt v i + f * dgt w i) * pw i by rw [Int.add_mul]; omega]
  rw [Int.add_mul_ediv_right _ _ (pw_ne i)]
  unfold car
  omega
theorem car_succ (v w f : Int) (i : Nat) : car v w f (i + 1) = (car v w f i + dgt v i + f * dgt w i) / 1000000000 := by
  rw [← pass_split]
  conv => lhs; unfold car
  rw [div_succ]
theorem mod_lin (v w f : Int) (n : Nat) : (v + f * w) % pw n = (v % pw n + f * (w % pw n)) % pw n := by
  rw [Int.add_emod, Int.mul_emod]
  rw [Int.add_emod (v % pw n) (f * (w % pw n)), Int.mul_emod f (w % pw n), Int.emod_emod, Int.emod_emod]
theorem dgt_pass (v w f : Int) (i : Nat) : dgt (v + f * w) i = (car v w f i + dgt v i + f * dgt w i) % 1000000000 := by
  rw [dgt_congr (mod_lin v w f (i + 1)) (Nat.lt_succ_self i)] 
  have : ∀ X : Int, dgt (X % pw (i + 1)) i = dgt X i := fun X => dgt_congr (n := i + 1) (by rw [Int.emod_emod]) (Nat.lt_succ_self i)
  rw [← pass_split]
  rfl
theorem car_bound {v w f : Int} (hf : -1000000000 ≤ f) (hf' : f ≤ 1000000000) : ∀ i : Nat, -1000000000 ≤ car v w f i ∧ car v w f i ≤ 1000000000
  | 0 => by rw [car_zero]; decide
  | i + 1 => by
    obtain ⟨h1, h2⟩ := car_bound (v := v) (w := w) hf hf' i
    have h3 := dgt_nonneg v i
    have h4 := dgt_lt v i
    have h5 := dgt_nonneg w i
    have h6 := dgt_lt w i
    have h7 : f * dgt w i ≤ 1000000000 * 999999999 := Int.le_trans (Int.mul_le_mul_of_nonneg_right hf' h5) (Int.mul_le_mul_of_nonneg_left (by omega) (by decide))
    have h8 : -(1000000000 * 999999999) ≤ f * dgt w i := by
      have h9 : (-f) * dgt w i ≤ 1000000000 * 999999999 := Int.le_trans (Int.mul_le_mul_of_nonneg_right (by omega) h5) (Int.mul_le_mul_of_nonneg_left (by omega) (by decide))
      rw [Int.neg_mul] at h9
      omega
    rw [car_succ]
    constructor <;> omega
theorem prod_bound {w f : Int} (hf : -1000000000 ≤ f) (hf' : f ≤ 1000000000) (i : Nat) : -999999999000000000 ≤ f * dgt w i ∧ f * dgt w i ≤ 999999999000000000 := by
  have h5 := dgt_nonneg w i
  have h6 := dgt_lt w i
  have h7 : f * dgt w i ≤ 1000000000 * 999999999 := Int.le_trans (Int.mul_le_mul_of_nonneg_right hf' h5) (Int.mul_le_mul_of_nonneg_left (by omega) (by decide))
  have h9 : (-f) * dgt w i ≤ 1000000000 * 999999999 := Int.le_trans (Int.mul_le_mul_of_nonneg_right (by omega) h5) (Int.mul_le_mul_of_nonneg_left (by omega) (by decide))
  rw [Int.neg_mul] at h9
  omega
theorem car_all {v w f : Int} {n : Nat} (h0 : 0 ≤ v) (hv : v < pw n) (h1 : 0 ≤ w) (hw : w < pw n) : car v w f n = (v + f * w) / pw n := by
  unfold car
  rw [mod_self_of h0 hv, mod_self_of h1 hw]
end Go.Proofs.Ytoknolholccamaa

namespace Go.Proofs.Ytoknolholccamaa
open Go.ChangeShapes Go.WideShapes Go.ChangeAt Go.RowKit
open Go.ChangeMaps (open_string shut_string)
set_option linter.unusedVariables false
set_option linter.unusedSimpArgs false

/-- The ints of a list, as values. -/
def vi (l : List Int) : List Value := l.map (Value.int .i64)
theorem vi_length (l : List Int) : (vi l).length = l.length := by simp [vi]
theorem vi_get {l : List Int} {k : Nat} (h : k < l.length) : (vi l)[k]? = some (.int .i64 l[k]) := by simp [vi, h]
theorem vi_get? {l : List Int} {k : Nat} {x : Int} (h : l[k]? = some x) : (vi l)[k]? = some (.int .i64 x) := by simp [vi, h]
theorem vi_append (l m : List Int) : vi (l ++ m) = vi l ++ vi m := by simp [vi]
theorem vi_take (l : List Int) (k : Nat) : vi (l.take k) = (vi l).take k := by simp [vi]
theorem vi_nil : vi [] = [] := rfl
/-- Every element is an int of the machine. -/
def Wd (l : List Int) : Prop := ∀ x ∈ l, -9223372036854775808 ≤ x ∧ x ≤ 9223372036854775807
theorem RdS.int {w : World} {A : Option Addr} {l : List Int} (h : RdS w A (vi l)) {k : Nat} {x : Int} (hx : l[k]? = some x) : ∃ b off, A = some ⟨b, off, none⟩ ∧ b < w.heap.size ∧ w.cell? ⟨b, off + k, none⟩ = some (.int .i64 x) := by
  have hk : k < l.length := by
    rcases Nat.lt_or_ge k l.length with h1 | h1
    · exact h1
    · rw [List.getElem?_eq_none h1] at hx; cases hx
  obtain ⟨b, off, ha, hb, hc⟩ := h.block (by rw [vi_length]; omega)
  exact ⟨b, off, ha, hb, by rw [hc k (by rw [vi_length]; exact hk), vi_get? hx]⟩
theorem RdS.int_at {w : World} {b off : Nat} {l : List Int} (h : RdS w (some ⟨b, off, none⟩) (vi l)) {k : Nat} {x : Int} (hx : l[k]? = some x) : w.cell? ⟨b, off + k, none⟩ = some (.int .i64 x) := by
  obtain ⟨b', off', ha, _, hc⟩ := h.int hx
  injection ha with e
  injection e with e1 e2
  subst e1; subst e2
  exact hc
theorem getElem_of? {l : List Int} {k : Nat} (h : k < l.length) : l[k]? = some l[k] := List.getElem?_eq_getElem h

/-- Block g holds just the ints L, and may be written. -/
def Blk (w : World) (g : Nat) (L : List Int) : Prop := w.heap[g]? = some (.cells (vi L).toArray 3 (0, 0))
theorem Blk.lt {w : World} {g : Nat} {L : List Int} (h : Blk w g L) : g < w.heap.size := (Array.getElem?_eq_some_iff.1 h).1
theorem Blk.cell {w : World} {g : Nat} {L : List Int} (h : Blk w g L) {k : Nat} {x : Int} (hx : L[k]? = some x) : w.cell? ⟨g, k, none⟩ = some (.int .i64 x) := by
  rw [cell_of_row w g k _ 3 (0, 0) h]
  simpa using vi_get? hx
theorem Blk.free {w : World} {g : Nat} {L : List Int} (h : Blk w g L) (k : Nat) : w.frozen? ⟨g, k, none⟩ = false := by
  have h' : w.heap[g]? = some (.cells (vi L).toArray 3 (0, 0)) := h
  unfold World.frozen?; rw [h']; simp
theorem Blk.set {w : World} {g : Nat} {L : List Int} (h : Blk w g L) (k : Nat) (x : Int) : Blk (w.setCell ⟨g, k, none⟩ (.int .i64 x)) g (L.set k x) := by
  have h' : w.heap[g]? = some (.cells (vi L).toArray 3 (0, 0)) := h
  show (w.setCell ⟨g, k, none⟩ (.int .i64 x)).heap[g]? = some (.cells (vi (L.set k x)).toArray 3 (0, 0))
  have e : (vi (L.set k x)).toArray = (vi L).toArray.setIfInBounds k (.int .i64 x) := by simp [vi, List.map_set]
  rw [e]
  simp [World.setCell, Array.getElem?_modify, h']
theorem Blk.below {w w' : World} {g B : Nat} {L : List Int} (h : Blk w g L) (hg : g < B) (hb : Below B w w') : Blk w' g L := by
  unfold Blk
  rw [hb.block g hg]
  exact h
theorem Blk.drew {w : World} {g n : Nat} {L : List Int} (h : Blk w g L) : Blk (w.drewN n) g L := h
theorem Blk.own {w : World} {g B : Nat} {L : List Int} (h : Blk w g L) (hB : B ≤ g) : OwnS B w (some ⟨g, 0, none⟩) (vi L) :=
  .inr ⟨g, rfl, hB, h.lt, fun j hj => by
    rw [vi_length] at hj
    rw [h.cell (getElem_of? hj), vi_get hj], fun j _ => h.free j⟩
/-- What make's law leaves. -/
theorem Blk.of_made {w : World} {base g n : Nat} {cs : List Value} (h : w.ownsRow base 3 1 (.slice (some ⟨g, 0, none⟩) n n) n cs) {L : List Int} (hL : cs = vi L) : Blk w g L := by
  obtain ⟨hl, hr⟩ := h
  rcases hr with ⟨hv, _⟩ | ⟨g', cap, cur, hv, hbg, hh, hnc, hm, hsz, htake⟩
  · cases hv
  · injection hv with e1 e2 e3
    injection e1 with e1
    injection e1 with e1
    subst e1; subst e3
    have : cur = (vi L).toArray := by
      rw [← hL, ← htake]
      have : cur.toList.length = n * 1 := by simpa using hsz
      rw [List.take_of_length_le (by omega)]
    show w.heap[g]? = _
    rw [hh, this]
theorem OwnS.other {B C : Nat} {w w0 w' : World} {A A' : Option Addr} {l l' : List Value} (h : OwnS B w A l) (hx : OwnS C w0 A' l') (hs : w0.heap.size ≤ B) (hg : w.grownBy w' (rowOf l'.length A')) : OwnS B w' A l := by
  rcases h with h | ⟨g, ha, hB, hsz, hc, hf⟩
  · exact .inl h
  · have hk : w'.heap[g]? = w.heap[g]? := hg.block g hsz (by
      unfold rowOf
      rcases hx with hx | ⟨g', ha', _, hs', _⟩
      · subst hx; simp
      · subst ha'
        split
        · simp
        · simp; omega)
    refine .inr ⟨g, ha, hB, Nat.lt_of_lt_of_le hsz hg.size, fun j hj => ?_, fun j hj => ?_⟩
    · rw [World.cell?_of_block (w := w) (a := ⟨g, j, none⟩) hk]; exact hc j hj
    · rw [World.frozen?_of_block (w := w) (a := ⟨g, j, none⟩) hk]; exact hf j hj
/-- What a row's writes leave of another block. -/
theorem RdS.grown {w w' : World} {g : Nat} {A : Option Addr} {l : List Value} (h : RdS w A l) (hA : ∀ b off, A = some ⟨b, off, none⟩ → b ≠ g) (hg : w.grownBy w' (some g)) : RdS w' A l := by
  rcases h with h | ⟨b, off, ha, hs, hc⟩
  · exact .inl h
  · have hk : w'.heap[b]? = w.heap[b]? := hg.block b hs (by intro q; injection q with q; exact hA b off ha q)
    refine .inr ⟨b, off, ha, Nat.lt_of_lt_of_le hs hg.size, fun j hj => ?_⟩
    rw [World.cell?_of_block (w := w) (a := ⟨b, off + j, none⟩) hk]; exact hc j hj
theorem grown_drewN {w w1 : World} {row : Option Nat} (h : w.grownBy w1 row) (n : Nat) : w.grownBy (w1.drewN n) row := ⟨h.os, h.tape, h.output, h.size, h.block⟩
theorem bt {a b c : World} (h1 : Below a.heap.size a b) (h2 : Below b.heap.size b c) : Below a.heap.size a c := h1.trans (h2.mono h1.size)
theorem grown_below {w w1 w2 : World} {row : Option Nat} (h : w.grownBy w1 row) (k : Below w1.heap.size w1 w2) : w.grownBy w2 row := grown_trans_below h k

/-- Row of L with the digits of T in places off .. off + i. -/
def lay (L : List Int) (off : Nat) (T : Int) (i : Nat) : List Int := L.take off ++ (row i T ++ L.drop (off + i))
theorem lay_zero (L : List Int) (off : Nat) (T : Int) : lay L off T 0 = L := by simp [lay, row]
theorem lay_length {L : List Int} {off i : Nat} (T : Int) (h : off + i ≤ L.length) : (lay L off T i).length = L.length := by
  simp [lay, row_length]; omega
theorem lay_set {L : List Int} {off i : Nat} (T : Int) (h : off + i < L.length) : (lay L off T i).set (off + i) (dgt T i) = lay L off T (i + 1) := by
  have hl : (L.take off ++ row i T).length = off + i := by simp [row_length]; omega
  unfold lay
  rw [← List.append_assoc, List.set_append_right _ _ (by omega), hl, Nat.sub_self]
  rw [List.drop_eq_getElem_cons h, List.set_cons_zero]
  have : row (i + 1) T = row i T ++ [dgt T i] := by simp [row, List.range_succ]
  rw [this, show off + (i + 1) = off + i + 1 by omega]
  simp
theorem lay_at {L : List Int} {off i : Nat} (T : Int) (h : off + i < L.length) : (lay L off T i)[off + i]? = L[off + i]? := by
  have hl : (L.take off ++ row i T).length = off + i := by simp [row_length]; omega
  unfold lay
  rw [← List.append_assoc, List.getElem?_append_right (by omega), hl, Nat.sub_self, List.getElem?_drop, Nat.add_zero]
theorem lay_all {n : Nat} (L : List Int) (T : Int) (h : L.length = n) : lay L 0 T n = row n T := by
  simp [lay, ← h]
theorem lay_in {L : List Int} {off n j : Nat} (T : Int) (h : off + n ≤ L.length) (hj : j < n) : (lay L off T n)[off + j]? = some (dgt T j) := by
  have hl : (L.take off).length = off := by simp; omega
  unfold lay
  rw [List.getElem?_append_right (by omega), hl, Nat.add_sub_cancel_left, List.getElem?_append_left (by rw [row_length]; exact hj), row_get T hj]
theorem lay_out {L : List Int} {off n j : Nat} (T : Int) (h : off + n ≤ L.length) (hj : j < off ∨ off + n ≤ j) : (lay L off T n)[j]? = L[j]? := by
  have hl : (L.take off).length = off := by simp; omega
  unfold lay
  rcases hj with hj | hj
  · rw [List.getElem?_append_left (by omega), List.getElem?_take, if_pos hj]
  · rw [List.getElem?_append_right (by omega), hl, List.getElem?_append_right (by rw [row_length]; omega), row_length, List.getElem?_drop]
    congr 1
    omega
theorem set_set (L : List Int) (k : Nat) (x y : Int) : (L.set k x).set k y = L.set k y := List.set_set ..
end Go.Proofs.Ytoknolholccamaa

namespace Go.Proofs.Ytoknolholccamaa
open Go.ChangeShapes Go.WideShapes Go.ChangeAt Go.RowKit
open Go.ChangeMaps (open_string shut_string)
set_option linter.unusedVariables false
set_option linter.unusedSimpArgs false
set_option maxRecDepth 4000

theorem ret_bool' {a b : Bool} (h : a = b) : Ending.returned (.bool a) = .returned (.bool b) := by rw [h]
theorem int_info : (Try.prog.info? 3).map (fun i => (i.zero, i.size, i.bytes)) = some (some (.int .i64 0), 1, 8) := by kernel_rfl
/-- A slice value, whatever its capacity, that reads as l in a row of the call's own. -/
def MadeI (B : Nat) (L : List Int) (w : World) (e : Ending) (w' : World) : Prop :=
  ∃ A c, e = .returned (.slice A L.length c) ∧ L.length ≤ c ∧ OwnS B w' A (vi L) ∧ Below w.heap.size w w'
/-- The first k elements agree. -/
def AgI (l m : List Int) (k : Nat) : Prop := ∀ j, j < k → l[j]? = m[j]?
theorem AgI.zero (l m : List Int) : AgI l m 0 := fun _ h => absurd h (by omega)
theorem AgI.succ {l m : List Int} {k : Nat} (h : AgI l m k) (h1 : l[k]? = m[k]?) : AgI l m (k + 1) := fun j hj => by
  rcases Nat.lt_or_ge j k with h2 | h2
  · exact h j h2
  · obtain rfl : j = k := by omega
    exact h1
theorem AgI.all {l m : List Int} (h : AgI l m l.length) (hl : l.length = m.length) : l = m := by
  apply List.ext_getElem?
  intro j
  rcases Nat.lt_or_ge j l.length with h2 | h2
  · exact h j h2
  · rw [List.getElem?_eq_none h2, List.getElem?_eq_none (by omega)]

set_option maxHeartbeats 800000 in
theorem eqIntS_any (l m : List Int) (A D : Option Addr) (n n' c d : Nat) (w : World) (hl : l.length = n) (hm : m.length = n') (hn : n ≤ 4611686018427387904) (hn' : n' ≤ 4611686018427387904)
    (hA : RdS w A (vi l)) (hD : RdS w D (vi m)) :
    Calls Try.prog 46 #[.slice A n c, .slice D n' d] w fun e w' => e = .returned (.bool (decide (l = m))) ∧ Below w.heap.size w w' := by
  have HL := Lib.hid hl
  have HM := Lib.hid hm
  clear hl hm
  by_cases hne : n = n'
  · subst hne
    go_enter Try.func46, Try.ntmps46
    go_wp2
    go_loopw [5] (fun i w' => ∃ k : Nat, k ≤ n ∧ i = .int .i64 k ∧ AgI l m k ∧ Below w.heap.size w w') (fun i _ => n - (intOf i).toNat)
    case atStart => exact ⟨0, Nat.zero_le _, rfl, AgI.zero _ _, Below.refl _ _⟩
    case round =>
      obtain ⟨k, hk, rfl, hag0, hb⟩ := hrel
      have hag := Lib.hid hag0
      clear hag0
      by_cases hlt : k < n
      · have hs0 : l[k]? = some (l[k]'(by rw [HL.out]; exact hlt)) := List.getElem?_eq_getElem _
        have ht0 : m[k]? = some (m[k]'(by rw [HM.out]; exact hlt)) := List.getElem?_eq_getElem _
        obtain ⟨b1, o1, rfl, hb1, e1⟩ := (hA.below hb).int hs0
        obtain ⟨b2, o2, rfl, hb2, e2⟩ := (hD.below hb).int ht0
        have hi0 : (0 : Int) ≤ (k : Int) := by omega
        have hi1 : (k : Int) < (n : Int) := by omega
        generalize l[k]'(by rw [HL.out]; exact hlt) = s at e1 hs0
        generalize m[k]'(by rw [HM.out]; exact hlt) = t at e2 ht0
        have Hs := Lib.hid hs0
        have Ht := Lib.hid ht0
        clear hs0 ht0
        by_cases hst : s = t
        · subst hst
          go_wp2
          go_quiet (fail)
          go_wp2
          go_roundw
          case rel => exact ⟨k + 1, by omega, by go_num, hag.out.succ (by rw [Hs.out, Ht.out]), below_drewN hb _⟩
          case measure => simp [intOf]; omega
        · have q : (s != t) = true := by rw [bne_iff_ne]; exact hst
          have Hf : Hid (decide (l = m) = false) := by
            refine Lib.hid (decide_eq_false (fun h => hst ?_))
            have h1 := Hs.out
            rw [h, Ht.out] at h1
            injection h1 with h1
            exact h1.symm
          clear hst
          go_wp2
          go_quiet (fail)
          go_wp2
          go_ret
          exact ⟨ret_bool' (by rw [Hf.out]), below_drewN hb _⟩
      · obtain rfl : k = n := by omega
        have Hf : Hid (decide (l = m) = true) := by
          refine Lib.hid (decide_eq_true (AgI.all ?_ (by rw [HL.out, HM.out])))
          rw [HL.out]; exact hag.out
        go_wp2
        go_ret
        exact ⟨ret_bool' (by rw [Hf.out]), hb⟩
  · have Hf : Hid (decide (l = m) = false) := Lib.hid (decide_eq_false (fun h => hne (by rw [← HL.out, ← HM.out, h])))
    have q : ((n : Int) != (n' : Int)) = true := by rw [bne_iff_ne]; omega
    go_enter Try.func46, Try.ntmps46
    go_wp2
    go_ret
    exact ⟨ret_bool' (by rw [Hf.out]), Below.refl _ _⟩
theorem eqIntS_same (l : List Int) (A D : Option Addr) (n c d : Nat) (w : World) (hl : l.length = n) (hn : n ≤ 4611686018427387904) (hA : RdS w A (vi l)) (hD : RdS w D (vi l)) :
    Calls Try.prog 46 #[.slice A n c, .slice D n d] w fun e w' => e = .returned (.bool true) ∧ Below w.heap.size w w' :=
  (eqIntS_any l l A D _ _ c d w hl hl hn hn hA hD).mono fun e w' ⟨he, hb⟩ => ⟨by rw [he, decide_eq_true rfl], hb⟩

/-- The marks k, k + 1, .. of n places. -/
def marks (k : Int) (n : Nat) : List Int := (List.range n).map (fun (i : Nat) => k + (i : Int))
theorem marks_length (k : Int) (n : Nat) : (marks k n).length = n := by simp [marks]
theorem marks_get {k : Int} {n j : Nat} (h : j < n) : (marks k n)[j]? = some (k + (j : Int)) := by simp [marks, h]
theorem vi_marks (k : Int) (n : Nat) : vi (marks k n) = (List.range n).map (fun (j : Nat) => Value.int .i64 (k + (j : Int))) := by simp [vi, marks]

/-- One more than the number of places: what the harness counts up to. -/
def mk1 (n : Nat) : Int := 1 + (n : Int)
theorem mk1_pos (n : Nat) : 0 < mk1 n := by unfold mk1; omega
theorem mk1_le (n : Nat) (h : n ≤ 1048576) : mk1 n ≤ 1048577 := by unfold mk1; omega
theorem dgt_zero (i : Nat) : dgt 0 i = 0 := by unfold dgt; rw [Int.zero_ediv]; rfl
theorem zeros (n : Nat) : (madeCells (Value.int .i64 0).cells (n * 1)).toList = vi (row n 0) := by
  have h1 : ∀ i : Nat, (Value.int IntKind.i64 0).cells[i % (Value.int IntKind.i64 0).cells.size]! = Value.int .i64 0 := by
    intro i
    show (#[Value.int IntKind.i64 0])[i % 1]! = _
    rw [Nat.mod_one]
    rfl
  apply List.ext_getElem?
  intro j
  rw [Nat.mul_one]
  simp only [madeCells, vi, row, Array.toList_map, Array.toList_range, List.map_map, List.getElem?_map]
  congr 1
  funext i
  simp only [Function.comp_apply, dgt_zero]
  exact h1 i

set_option maxHeartbeats 400000 in
theorem toIntS_any (l : List Int) (A : Option Addr) (n c : Nat) (w : World) (hl : l.length = n) (hn : n ≤ 1048576) (hA : RdS w A (vi l)) :
    Calls Try.prog 42 #[.slice A n c] w fun e w' => ∃ g, e = .returned (.slice (some ⟨g, 0, none⟩) n n) ∧ OwnS w.heap.size w' (some ⟨g, 0, none⟩) (vi l) ∧ Below w.heap.size w w' := by
  obtain ⟨i0, hi, hz0, hz1, hz2⟩ := info_parts int_info
  have HL := Lib.hid hl
  clear hl
  go_enter Try.func42, Try.ntmps42
  go_wp2_with (refine wpList_make_full _ rfl (.tmp 6) (.tmp 6) 47 rfl w.heap.size 3 i0 _ 1 Try.underlying47 hi hz0 hz1 .i64 .i64 n n n rfl rfl rfl rfl (by rw [hz2]; omega) (by simp only [maxLen]; omega) (Nat.le_refl _) ?_; intro w1 hown hg)
  have hb1 : Below w.heap.size w w1 := below_of_grown hg (Nat.le_refl _) (fun g h => by cases h)
  have hln : (madeCells (Value.int .i64 0).cells (n * 1)).toList.length = n := by rw [Array.length_toList, size_madeCells, Nat.mul_one]
  have hst := Filling.start (OwnS.of_own hown) hln (fun j => .int .i64 (l.getD j 0))
  clear hown hg hln
  go_wp2
  go_loopw [4] (fun i w' => ∃ j : Nat, j ≤ n ∧ i = .int .i64 (j : Int) ∧ Filling w.heap.size w1 w' (some ⟨w.heap.size, 0, none⟩) n (fun j => .int .i64 (l.getD j 0)) j) (fun i _ => n - (intOf i).toNat)
  case atStart => exact ⟨0, Nat.zero_le _, rfl, hst⟩
  case round =>
    obtain ⟨j, hj, rfl, hfl⟩ := hrel
    clear hst
    have hbw : Below w.heap.size w wr := hb1.trans (below_of_grown hfl.1 hb1.size (fun g hg => by
      unfold rowOf at hg
      split at hg
      · cases hg
      · simp at hg; omega))
    by_cases hlt : j < n
    · obtain ⟨g, u, hgg, hg, hcu, hfr⟩ := hfl.at_ hlt
      obtain rfl : g = w.heap.size := by injection hgg with e; injection e with e1 _ _; exact e1.symm
      clear hgg
      have hjl : j < l.length := by rw [HL.out]; exact hlt
      obtain ⟨b1, o1, rfl, hb1', e1⟩ := (hA.below hbw).int (getElem_of? hjl)
      have hx : Hid (Value.int .i64 l[j] = Value.int .i64 (l.getD j 0)) := Lib.hid (by rw [List.getD_eq_getElem?_getD, List.getElem?_eq_getElem hjl]; rfl)
      generalize hsx : l[j] = s at e1 hx
      clear hsx hjl
      have hi0 : (0 : Int) ≤ (j : Int) := by omega
      have hi1 : (j : Int) < (n : Int) := by omega
      go_wp2
      go_roundw
      case rel => exact ⟨j + 1, by omega, by go_num, hfl.step hlt hx.out⟩
      case measure => simp [intOf]; omega
    · obtain rfl : j = n := by omega
      go_wp2
      go_ret
      refine ⟨_, rfl, ?_, hbw⟩
      have := hfl.done
      have e : (List.range j).map (fun i => Value.int .i64 (l.getD i 0)) = vi l := by
        apply List.ext_getElem?
        intro i
        rw [List.getElem?_map, ← HL.out]
        rcases Nat.lt_or_ge i l.length with h | h
        · rw [vi_get h, List.getElem?_range h]
          simp [List.getD_eq_getElem?_getD, List.getElem?_eq_getElem h]
        · rw [List.getElem?_eq_none (l := List.range l.length) (by simpa using h), List.getElem?_eq_none (by rw [vi_length]; exact h)]
          rfl
      rw [e] at this
      exact this
end Go.Proofs.Ytoknolholccamaa

namespace Go.Proofs.Ytoknolholccamaa
open Go.ChangeShapes Go.WideShapes Go.ChangeAt Go.RowKit
open Go.ChangeMaps (open_string shut_string)
set_option linter.unusedVariables false
set_option linter.unusedSimpArgs false
set_option maxRecDepth 4000

/-- The first k elements are digits. -/
def DigTI (l : List Int) (k : Nat) : Prop := ∀ j x, j < k → l[j]? = some x → 0 ≤ x ∧ x < 1000000000
theorem DigTI.zero (l : List Int) : DigTI l 0 := fun _ _ h => absurd h (by omega)
theorem DigTI.succ {l : List Int} {k : Nat} {x : Int} (h : DigTI l k) (hx : l[k]? = some x) (h0 : 0 ≤ x) (h1 : x < 1000000000) : DigTI l (k + 1) := fun j y hj hy => by
  rcases Nat.lt_or_ge j k with h2 | h2
  · exact h j y h2 hy
  · obtain rfl : j = k := by omega
    rw [hx] at hy
    injection hy with hy
    omega
theorem ok_false_of {l : List Int} {k : Nat} {x : Int} (hx : l[k]? = some x) (h : ¬ (0 ≤ x ∧ x < 1000000000)) : ok l = false := by
  rw [← Bool.not_eq_true]
  intro e
  unfold ok at e
  simp only [Bool.and_eq_true, Bool.or_eq_true, decide_eq_true_eq, List.all_eq_true] at e
  exact h (e.1.2 x (List.mem_of_getElem? hx))
theorem ok_false_long {l : List Int} (h : 60 < l.length) : ok l = false := by
  rw [← Bool.not_eq_true]
  intro e
  unfold ok at e
  simp only [Bool.and_eq_true, Bool.or_eq_true, decide_eq_true_eq, List.all_eq_true] at e
  omega
theorem ok_nil : ok [] = true := rfl
theorem ok_end {l : List Int} {x : Int} (hl : l.length ≤ 60) (hd : DigTI l l.length) (hx : l[l.length - 1]? = some x) : ok l = decide (x ≠ 0) := by
  have hne : l ≠ [] := by rintro rfl; simp at hx
  have ha : (l.all fun x => decide (0 ≤ x) && decide (x < 1000000000)) = true := by
    rw [List.all_eq_true]
    intro y hy
    obtain ⟨j, hj, hjy⟩ := List.getElem_of_mem hy
    have := hd j y hj (by rw [List.getElem?_eq_getElem hj, hjy])
    simpa using this
  unfold ok
  rw [ha, decide_eq_true hl, decide_eq_false hne, List.getD_eq_getElem?_getD, hx]
  simp

end Go.Proofs.Ytoknolholccamaa

namespace Go.Proofs.Ytoknolholccamaa
open Go.ChangeShapes Go.WideShapes Go.ChangeAt Go.RowKit
open Go.ChangeMaps (open_string shut_string)
set_option linter.unusedVariables false
set_option linter.unusedSimpArgs false

theorem laidOut : laidOutB Try.prog = true := by kernel_rfl
theorem cellsInt : Try.prog.cellsOf 3 = 1 := by kernel_rfl

/-- A slice of ints that came in, read. -/
theorem opened {H : Type} {enc : TypeId × Value → H} {W : World} {a0 : Option Addr} {len cap fuel : Nat} {d : DataW H} {p : List MemPlace}
    (hf : DataW.trod enc Try.prog W 0 (fun _ => true) true fuel 47 (Value.slice a0 len cap).cells.toList = some (d, p)) :
    ∃ l : List Int, l.length = len ∧ len ≤ 9223372036854775807 ∧ RdS W a0 (vi l) := by
  rcases open_ints Try.underlying47 Try.underlying3 cellsInt hf with ⟨hcs, hx⟩ | ⟨a, len', cap', zs, hcs, _, hl, hm, hz, hx, hcell, hws⟩
  · simp [Value.cells] at hcs
    obtain ⟨rfl, rfl, rfl⟩ := hcs
    exact ⟨[], rfl, by omega, .inl rfl⟩
  · simp [Value.cells] at hcs
    obtain ⟨rfl, rfl, rfl⟩ := hcs
    simp only [if_true] at hz
    simp only [maxLen] at hm
    have hlen : (zs.take len).length = len := by rw [List.length_take]; omega
    refine ⟨zs.take len, hlen, by omega, ?_⟩
    by_cases hl0 : len = 0
    · left; subst hl0; rfl
    · obtain ⟨b, off, spot⟩ := a
      have hspot : spot = none := by simpa [Addr.add] using World.cell?_spot (hcell 0 (by omega))
      subst hspot
      have hbW : b < W.heap.size := World.block_lt_of_cell? W _ (hcell 0 (by omega))
      refine .inr ⟨b, off, rfl, hbW, fun j hj => ?_⟩
      rw [vi_length, hlen] at hj
      rw [← add_plain, hcell j (by omega), vi_get (by rw [hlen]; exact hj)]
      simp [List.getD_eq_getElem?_getD, List.getElem?_eq_getElem (show j < zs.length by omega)]
end Go.Proofs.Ytoknolholccamaa

namespace Go.Proofs.Ytoknolholccamaa
open Go.ChangeShapes Go.WideShapes Go.ChangeAt Go.RowKit
open Go.ChangeMaps (open_string shut_string)
set_option linter.unusedVariables false
set_option linter.unusedSimpArgs false
set_option maxRecDepth 4000

theorem append_int {ops : Array Oper} {rest : List Oper} {o : Oper} {a : Act} {Q : Exit → Act → World → Prop} (hgd : o.guard = none) (f x : Operand)
    (ho : o.op = .call { callee := .builtin .append, args := #[f, x], argTypes := #[47, 47] })
    (B n : Nat) (v : Value) (xs : List Int) (t : Int) (w : World) (hf : a.eval f = v) (hx : a.eval x = .slice (some ⟨w.heap.size, 0, none⟩) 1 1)
    (hown : w.ownsRow B 3 1 v n (vi xs)) (hn : n ≤ 1099511627776) (hB : B ≤ w.heap.size)
    (h : ∀ v' w', w'.ownsRow B 3 1 v' (n + 1) (vi (xs ++ [t])) → Below B w w' → w.heap.size ≤ w'.heap.size → wpList Try.prog ops Q rest (a.put o.dst v') w') :
    wpList Try.prog ops Q (o :: rest) a (w.alloc (.cells #[.int .i64 t] 3)) := by
  obtain ⟨i0, hi, hz0, hz1, hz2⟩ := info_parts int_info
  refine wpList_append_own (w.alloc (.cells #[.int .i64 t] 3)) hgd f x 47 ho B 3 i0 _ 1 8 Try.underlying47 hi hz0 hz1 hz2 rfl (by decide) v n (vi xs) hf (hown.alloc _) ⟨w.heap.size, 0, none⟩ 1 1 [.int .i64 t] hx rfl ?_ ?_ (by simp only [maxLen]; omega) (by omega) (by simp; omega) ?_
  · intro j u hu
    have hj : j = 0 := by
      have := (List.getElem?_eq_some_iff.1 hu).1
      simpa using this
    subst hj
    simp at hu
    subst hu
    exact World.cell?_alloc_new _ _ _ _
  · simp [Value.oneCell']
  · intro v' w' h1 h2 _
    refine h v' w' (by rw [vi_append]; exact h1) ?_ (by have := h2.size; simp at this; omega)
    refine ((Below.refl B w).alloc hB _).grown h2 (by simp; omega) (fun g hg => ?_)
    rcases hown.2 with ⟨rfl, _⟩ | ⟨g', cap, cur, rfl, hbg, _⟩
    · simp [Value.ownBlock] at hg
    · simp [Value.ownBlock] at hg
      omega

theorem owns_below {w w' : World} {B n : Nat} {e : TypeId} {v : Value} {xs : List Value} (h : w.ownsRow B e 1 v n xs) (hb : Below w.heap.size w w') : w'.ownsRow B e 1 v n xs :=
  ⟨h.1, h.2.imp id (fun ⟨g, cap, cur, hv, hB, hh, r⟩ => ⟨g, cap, cur, hv, hB, by rw [hb.block g (Array.getElem?_eq_some_iff.1 hh).1]; exact hh, r⟩)⟩
theorem made_own {B n : Nat} {w w' : World} {v : Value} {L : List Int} (h : w'.ownsRow B 3 1 v n (vi L)) (hb : Below w.heap.size w w') : MadeI B L w (.returned v) w' := by
  obtain ⟨A, c, rfl, hc, _, hl⟩ := own_len h
  rw [vi_length] at hl
  subst hl
  exact ⟨A, c, rfl, hc, OwnS.of_own h, hb⟩
theorem row_succ (k : Nat) (T : Int) : row (k + 1) T = row k T ++ [dgt T k] := by simp [row, List.range_succ]
theorem ln_stop {N k : Nat} (h : (N : Int) / pw k = 0) (hk : k ≤ ln N) : k = ln N := by
  have h1 := Int.mul_ediv_add_emod (N : Int) (pw k)
  have h2 := mod_lt (N : Int) k
  rw [h, Int.mul_zero] at h1
  have : ln N ≤ k := ln_le_iff.2 (by omega)
  omega
theorem ln_more {N k : Nat} (h : 0 < (N : Int) / pw k) : k < ln N := by
  rcases Nat.lt_or_ge k (ln N) with h1 | h1
  · exact h1
  · have := ln_le_iff.1 h1
    rw [div_small (by omega) this] at h
    omega
theorem ln_small (N : Nat) (h : N ≤ 9223372036854775807) : ln N ≤ 3 := by
  rw [ln_le_iff]
  have : pw 3 = 1000000000000000000000000000 := by decide
  omega

end Go.Proofs.Ytoknolholccamaa

namespace Go.Proofs.Ytoknolholccamaa
open Go.ChangeShapes Go.WideShapes Go.ChangeAt Go.RowKit
open Go.ChangeMaps (open_string shut_string)
set_option linter.unusedVariables false
set_option linter.unusedSimpArgs false
set_option maxRecDepth 4000

/-- The harness' functions at a list whose length stays closed. -/
theorem eq_at (L : List Int) (h : L.length ≤ 1048576) : Hid (∀ A D c d W, RdS W A (vi L) → RdS W D (vi L) → Calls Try.prog 46 #[.slice A L.length c, .slice D L.length d] W fun e w' => e = .returned (.bool true) ∧ Below W.heap.size W w') :=
  Lib.hid (fun A D c d W h1 h2 => eqIntS_same L A D _ c d W rfl (by omega) h1 h2)
theorem row_at {B : Nat} {W : World} {A : Option Addr} {L : List Int} (h : OwnS B W A (vi L)) : ∀ g, rowOf L.length A = some g → B ≤ g := by
  have := h.row
  rwa [vi_length] at this

end Go.Proofs.Ytoknolholccamaa

namespace Go.Proofs.Ytoknolholccamaa
open Go.ChangeShapes Go.WideShapes Go.ChangeAt Go.RowKit
open Go.ChangeMaps (open_string shut_string)
set_option linter.unusedVariables false
set_option linter.unusedSimpArgs false
set_option maxRecDepth 4000

end Go.Proofs.Ytoknolholccamaa

namespace Go.Proofs.Ytoknolholccamaa
open Go.ChangeShapes Go.WideShapes Go.ChangeAt Go.RowKit
open Go.ChangeMaps (open_string shut_string)
set_option linter.unusedVariables false
set_option linter.unusedSimpArgs false

theorem ret_int' {a b : Int} (h : a = b) : Ending.returned (.int .i64 a) = .returned (.int .i64 b) := by rw [h]
def cmpI (x y : Int) : Int := if x < y then -1 else if y < x then 1 else 0
theorem cmpI_lt {x y : Int} (h : x < y) : cmpI x y = -1 := if_pos h
theorem cmpI_gt {x y : Int} (h : y < x) : cmpI x y = 1 := by unfold cmpI; rw [if_neg (by omega), if_pos h]
theorem cmpI_eq {x y : Int} (h : x = y) : cmpI x y = 0 := by unfold cmpI; rw [if_neg (by omega), if_neg (by omega)]
theorem cmpN_lt {a b : Nat} (h : a < b) : cmpN a b = -1 := if_pos h
theorem cmpN_gt {a b : Nat} (h : b < a) : cmpN a b = 1 := by unfold cmpN; rw [if_neg (by omega), if_pos h]
theorem cmpN_eq {a b : Nat} (h : a = b) : cmpN a b = 0 := by unfold cmpN; rw [if_neg (by omega), if_neg (by omega)]
theorem cmpN_range (a b : Nat) : -1 ≤ cmpN a b ∧ cmpN a b ≤ 1 := by
  unfold cmpN
  split
  · omega
  · split <;> omega

theorem held_two {wr W w1 : World} {a b : Addr} {u v : Value} (ha : a.block < wr.heap.size) (hb0 : b.block < wr.heap.size) (h1 : W.cell? a = some u) (h2 : W.cell? b = some v) (h3 : Below wr.heap.size wr W) (hb : Below W.heap.size W w1) : w1.cell? a = some u ∧ w1.cell? b = some v ∧ Below wr.heap.size wr w1 :=
  ⟨by rw [hb.cell (p := a) (Nat.lt_of_lt_of_le ha h3.size)]; exact h1, by rw [hb.cell (p := b) (Nat.lt_of_lt_of_le hb0 h3.size)]; exact h2, h3.trans (hb.mono h3.size)⟩

/-- The answer of 'NatCmp'. -/
def cmpL (l m : List Int) : Int := if ok l && ok m then cmpN (val l) (val m) else 0
theorem val_nd (v : Nat) : val (nd v) = v := by
  have h : Digs (nd v) := fun x hx => by
    obtain ⟨i, _, rfl⟩ := List.mem_map.1 hx
    exact ⟨dgt_nonneg _ _, dgt_lt _ _⟩
  obtain ⟨h1, h2⟩ := row_val _ h
  rw [nd_length] at h1 h2
  have h3 := row_inj (n := ln v) (by omega) h2 (by omega) (ln_lt v) h1
  omega

theorem to_at (l : List Int) (A : Option Addr) (n c : Nat) (hl : l.length = n) (hn : n ≤ 1048576) : Hid (∀ W, RdS W A (vi l) → Calls Try.prog 42 #[.slice A n c] W fun e w' => ∃ g, e = .returned (.slice (some ⟨g, 0, none⟩) n n) ∧ OwnS W.heap.size w' (some ⟨g, 0, none⟩) (vi l) ∧ Below W.heap.size W w') := Lib.hid (fun W h => toIntS_any l A n c W hl hn h)

end Go.Proofs.Ytoknolholccamaa

namespace Go.Proofs.Ytoknolholccamaa
open Go.ChangeShapes Go.WideShapes Go.ChangeAt Go.RowKit
open Go.ChangeMaps (open_string shut_string)
set_option linter.unusedVariables false
set_option linter.unusedSimpArgs false

/-- Go's division and remainder, mended for a negative number. -/
theorem quo_rem (s : Int) : (0 ≤ s.tmod 1000000000 → s.tmod 1000000000 = s % 1000000000 ∧ s.tdiv 1000000000 = s / 1000000000) ∧ (s.tmod 1000000000 < 0 → s.tmod 1000000000 + 1000000000 = s % 1000000000 ∧ s.tdiv 1000000000 - 1 = s / 1000000000) := by
  have h1 := Int.mul_tdiv_add_tmod s 1000000000
  have h2 := Int.tmod_lt_of_pos s (show (0 : Int) < 1000000000 by decide)
  have h3 := Int.lt_tmod_of_pos s (show (0 : Int) < 1000000000 by decide)
  generalize s.tmod 1000000000 = t at h1 h2 h3 ⊢
  generalize s.tdiv 1000000000 = q at h1 ⊢
  constructor <;> intro h <;> omega
theorem wrap_in {x : Int} (h0 : -9223372036854775808 ≤ x) (h1 : x ≤ 9223372036854775807) : wrap64 x = x := by unfold wrap64; omega
theorem Blk.lay1 {w : World} {g off k : Nat} {L : List Int} {T y : Int} (h : Blk w g (lay L off T k)) (hl : off + k < L.length) (hy : y = dgt T k) : Blk (w.setCell ⟨g, off + k, none⟩ (.int .i64 y)) g (lay L off T (k + 1)) := by
  have := h.set (off + k) y
  rw [hy, lay_set T hl] at this
  rw [hy]
  exact this
theorem Blk.lay2 {w : World} {g off k : Nat} {L : List Int} {T x y : Int} (h : Blk w g (lay L off T k)) (hl : off + k < L.length) (hy : y = dgt T k) : Blk ((w.setCell ⟨g, off + k, none⟩ (.int .i64 x)).setCell ⟨g, off + k, none⟩ (.int .i64 y)) g (lay L off T (k + 1)) := by
  have := (h.set (off + k) x).set (off + k) y
  rw [set_set, hy, lay_set T hl] at this
  rw [hy]
  exact this

end Go.Proofs.Ytoknolholccamaa

namespace Go.Proofs.Ytoknolholccamaa
open Go.ChangeShapes Go.WideShapes Go.ChangeAt Go.RowKit
open Go.ChangeMaps (open_string shut_string)
set_option linter.unusedVariables false
set_option linter.unusedSimpArgs false

theorem row_more {n e : Nat} {v : Int} (h0 : 0 ≤ v) (h : v < pw n) : row (n + e) v = row n v ++ row e 0 := by
  apply List.ext_getElem?
  intro j
  rcases Nat.lt_or_ge j n with h1 | h1
  · rw [List.getElem?_append_left (by rw [row_length]; exact h1), row_get _ h1, row_get _ (by omega)]
  · rw [List.getElem?_append_right (by rw [row_length]; exact h1), row_length]
    rcases Nat.lt_or_ge j (n + e) with h2 | h2
    · rw [row_get _ h2, row_get _ (by omega), dgt_zero, dgt_small h0 h h1]
    · rw [List.getElem?_eq_none (by rw [row_length]; exact h2), List.getElem?_eq_none (by rw [row_length]; omega)]
theorem wide_row {v n : Nat} (h : ln v ≤ n) : row n v = nd v ++ row (n - ln v) 0 := by
  have := row_more (n := ln v) (e := n - ln v) (v := v) (by omega) (ln_lt v)
  rw [show ln v + (n - ln v) = n by omega] at this
  exact this

/-- A place to halt the walk at. -/
def Cut (p : Prop) : Prop := p
theorem cut_here {p : Prop} (h : Cut p) : p := h
theorem Cut.of {p : Prop} (h : p) : Cut p := h

theorem cap60_in {T : Nat} (h : ln T ≤ 60) : cap60 T = nd T := if_pos h
theorem cap60_out {T : Nat} (h : 60 < ln T) : cap60 T = [] := if_neg (by omega)

end Go.Proofs.Ytoknolholccamaa

namespace Go.Proofs.Ytoknolholccamaa
open Go.ChangeShapes Go.WideShapes Go.ChangeAt Go.RowKit
open Go.ChangeMaps (open_string shut_string)
set_option linter.unusedVariables false
set_option linter.unusedSimpArgs false

end Go.Proofs.Ytoknolholccamaa

namespace Go.Proofs.Ytoknolholccamaa
open Go.ChangeShapes Go.WideShapes Go.ChangeAt Go.RowKit
open Go.ChangeMaps (open_string shut_string)
set_option linter.unusedVariables false
set_option linter.unusedSimpArgs false

end Go.Proofs.Ytoknolholccamaa

namespace Go.Proofs.Ytoknolholccamaa
open Go.ChangeShapes Go.WideShapes Go.ChangeAt Go.RowKit
open Go.ChangeMaps (open_string shut_string)
set_option linter.unusedVariables false
set_option linter.unusedSimpArgs false

/-- The answer: the number and whether it is an int. -/
def toV (l : List Int) : Int := if ok l && decide (val l ≤ 9223372036854775807) then (val l : Int) else 0
def toB (l : List Int) : Bool := ok l && decide (val l ≤ 9223372036854775807)
theorem ret_two {a b : Int} {p q : Bool} (h : a = b) (h2 : p = q) : Ending.returned (.tuple #[.int .i64 a, .bool p]) = .returned (.tuple #[.int .i64 b, .bool q]) := by rw [h, h2]
theorem div_le (a : Nat) (k : Nat) : (a : Int) / pw k ≤ a := Int.ediv_le_self _ (by omega)
theorem div_nn (a : Nat) (k : Nat) : 0 ≤ (a : Int) / pw k := Int.ediv_nonneg (by omega) (Int.le_of_lt (pw_pos k))
theorem toV_no {l : List Int} (h : ok l = false) : toV l = 0 ∧ toB l = false := by unfold toV toB; rw [h]; exact ⟨rfl, rfl⟩
theorem toV_big {a : Nat} (h : 9223372036854775807 < a) : toV (nd a) = 0 ∧ toB (nd a) = false := by
  have : decide (a ≤ 9223372036854775807) = false := decide_eq_false (by omega)
  unfold toV toB
  rw [val_nd, this, Bool.and_false]
  exact ⟨rfl, rfl⟩
theorem toV_yes {a : Nat} (h60 : ln a ≤ 60) (h : a ≤ 9223372036854775807) : toV (nd a) = a ∧ toB (nd a) = true := by
  unfold toV toB
  rw [val_nd, nd_ok h60, decide_eq_true h]
  exact ⟨rfl, rfl⟩

theorem nd_max : nd 9223372036854775807 = [854775807, 223372036, 9] ∧ ln 9223372036854775807 = 3 := by
  have h3 : ln 9223372036854775807 = 3 := by
    rw [ln_pos (by decide), show 9223372036854775807 / 1000000000 = 9223372036 by decide, ln_pos (by decide), show 9223372036 / 1000000000 = 9 by decide, ln_pos (by decide), show 9 / 1000000000 = 0 by decide, ln_zero]
  refine ⟨?_, h3⟩
  unfold nd
  rw [h3]
  decide

end Go.Proofs.Ytoknolholccamaa

namespace Go.Proofs.Ytoknolholccamaa
set_option linter.unusedVariables false
set_option linter.unusedSimpArgs false

/-! The quotient guessed from the highest limbs. -/
theorem guess_ge {P b S : Nat} (hS : 0 < S) (hd : 0 < b / S) : P / b ≤ P / S / (b / S) := by
  rw [Nat.le_div_iff_mul_le hd, Nat.le_div_iff_mul_le hS, Nat.mul_assoc]
  exact Nat.le_trans (Nat.mul_le_mul_left _ (Nat.div_mul_le_self b S)) (Nat.div_mul_le_self P b)
theorem guess_B {P b S : Nat} (hS : 0 < S) (hd : 1000000000 ≤ b / S) (hP : P < 1000000000 * b) : P / S / (b / S) ≤ 1000000000 := by
  have h1 : b < (b / S + 1) * S := by
    have := Nat.div_add_mod b S
    have h2 := Nat.mod_lt b hS
    rw [Nat.add_mul, Nat.mul_comm (b / S)]
    omega
  have h3 : P / S < 1000000000 * (b / S + 1) := by
    rw [Nat.div_lt_iff_lt_mul hS, Nat.mul_assoc]
    exact Nat.lt_trans hP (Nat.mul_lt_mul_of_pos_left h1 (by decide))
  have h4 : P / S / (b / S) < 1000000001 := by
    rw [Nat.div_lt_iff_lt_mul (by omega)]
    omega
  omega
theorem guess_le {P b S : Nat} (hS : 0 < S) (hb : 0 < b) (hd : 1000000000 ≤ b / S) (hP : P < 1000000000 * b) : P / S / (b / S) ≤ P / b + 1 := by
  have hB := guess_B hS hd hP
  rcases Nat.eq_zero_or_pos (P / S / (b / S)) with h0 | h0
  · rw [h0]; exact Nat.zero_le _
  · obtain ⟨k, hk⟩ : ∃ k, P / S / (b / S) = k + 1 := ⟨P / S / (b / S) - 1, by omega⟩
    rw [hk]
    refine Nat.succ_le_succ ?_
    rw [Nat.le_div_iff_mul_le hb]
    have h1 : b ≤ (b / S + 1) * S := by
      have := Nat.div_add_mod b S
      have h2 := Nat.mod_lt b hS
      rw [Nat.add_mul, Nat.mul_comm (b / S)]
      omega
    have h2 : (k + 1) * (b / S) ≤ P / S := by rw [← hk]; exact Nat.div_mul_le_self _ _
    have h3 : k * (b / S + 1) ≤ (k + 1) * (b / S) := by
      rw [Nat.mul_add, Nat.add_mul]
      omega
    calc k * b ≤ k * ((b / S + 1) * S) := Nat.mul_le_mul_left _ h1
      _ = (k * (b / S + 1)) * S := (Nat.mul_assoc _ _ _).symm
      _ ≤ P / S * S := Nat.mul_le_mul_right _ (Nat.le_trans h3 h2)
      _ ≤ P := Nat.div_mul_le_self _ _
/-- The number of the three highest places. -/
theorem top3 (T : Int) (i : Nat) : (dgt T (i + 2) * 1000000000 + dgt T (i + 1)) * 1000000000 + dgt T i = T / pw i - T / pw (i + 3) * 1000000000000000000000000000 := by
  have h1 := div_split T i
  have h2 : T / pw (i + 1) = T / pw (i + 2) * 1000000000 + dgt T (i + 1) := div_split T (i + 1)
  have h3 : T / pw (i + 2) = T / pw (i + 3) * 1000000000 + dgt T (i + 2) := div_split T (i + 2)
  omega

/-! Lehmer's steps. -/
theorem leh_low {xa yb D p r s t q α β : Int} (hD : 0 < D) (hp : 0 ≤ p) (hr : 0 ≤ r) (hs : 0 ≤ s) (ht : 0 ≤ t) (hq : 0 ≤ q) (hα : 0 ≤ α) (hβ : β ≤ D)
    (h : q * (yb + t) ≤ xa - r) : 0 ≤ (xa - q * yb) * D + (p + q * s) * α - (r + q * t) * β := by
  have h1 : 0 ≤ (p + q * s) * α := Int.mul_nonneg (Int.add_nonneg hp (Int.mul_nonneg hq hs)) hα
  have h2 : (r + q * t) * β ≤ (r + q * t) * D := Int.mul_le_mul_of_nonneg_left hβ (Int.add_nonneg hr (Int.mul_nonneg hq ht))
  have h3 : 0 ≤ (xa - q * yb - (r + q * t)) * D := Int.mul_nonneg (by rw [Int.mul_add] at h; omega) (Int.le_of_lt hD)
  rw [Int.sub_mul] at h3
  omega
theorem leh_high {xa yb D p r s t q α β : Int} (hD : 0 < D) (hp : 0 ≤ p) (hr : 0 ≤ r) (hs : 0 ≤ s) (ht : 0 ≤ t) (hq : 0 ≤ q) (hα : α ≤ D) (hβ : 0 ≤ β)
    (h : xa + p < (q + 1) * (yb - s)) : (xa - (q + 1) * yb) * D + (p + (q + 1) * s) * α - (r + (q + 1) * t) * β < 0 := by
  have h1 : 0 ≤ (r + (q + 1) * t) * β := Int.mul_nonneg (Int.add_nonneg hr (Int.mul_nonneg (by omega) ht)) hβ
  have h2 : (p + (q + 1) * s) * α ≤ (p + (q + 1) * s) * D := Int.mul_le_mul_of_nonneg_left hα (Int.add_nonneg hp (Int.mul_nonneg (by omega) hs))
  have h3 : 0 < ((q + 1) * yb - xa - (p + (q + 1) * s)) * D := Int.mul_pos (by rw [Int.mul_sub] at h; omega) hD
  rw [Int.sub_mul, Int.sub_mul] at h3
  rw [Int.sub_mul]
  omega
/-- What successive common steps keep: (fa fb | na nb) are the coefficients, xa and yb what is left of the heads x and y, X and Y of the numbers A and B. -/
structure Leh (x y A B fa fb na nb xa yb X Y : Int) : Prop where
  par : (0 ≤ fa ∧ fb ≤ 0 ∧ na ≤ 0 ∧ 1 ≤ nb ∧ x = nb * xa - fb * yb ∧ y = fa * yb - na * xa) ∨ (fa ≤ 0 ∧ 0 ≤ fb ∧ 0 ≤ na ∧ nb ≤ -1 ∧ x = fb * yb - nb * xa ∧ y = na * xa - fa * yb)
  exa : xa = fa * x + fb * y
  eyb : yb = na * x + nb * y
  eX : X = fa * A + fb * B
  eY : Y = na * A + nb * B
  ord : 0 ≤ yb ∧ yb ≤ xa
  pos : 0 ≤ Y ∧ Y ≤ X ∧ X ≤ A
  gcd : Int.gcd X Y = Int.gcd A B
  less : Y ≤ B ∧ (fb ≠ 0 → Y < B)

theorem Leh.start {x y A B : Int} (hy : 0 ≤ y) (hxy : y ≤ x) (hB : 0 ≤ B) (hAB : B ≤ A) : Leh x y A B 1 0 0 1 x y A B :=
  { par := .inl ⟨by omega, by omega, by omega, by omega, by omega, by omega⟩, exa := by omega, eyb := by omega, eX := by omega, eY := by omega
    ord := ⟨hy, hxy⟩, pos := ⟨hB, hAB, Int.le_refl _⟩, gcd := rfl, less := ⟨Int.le_refl _, fun h => absurd rfl h⟩ }

theorem gcd_step (X Y q : Int) : Int.gcd Y (X - q * Y) = Int.gcd X Y := by
  rw [Int.gcd_comm X Y, show X - q * Y = X + (-q) * Y by rw [Int.neg_mul]; omega]
  simp
theorem par_step {fb nb xa yb q : Int} : nb * (xa - q * yb) - (fb - q * nb) * yb = nb * xa - fb * yb := by
  rw [Int.mul_sub, Int.sub_mul]
  have : nb * (q * yb) = q * nb * yb := by rw [← Int.mul_assoc, Int.mul_comm nb q]
  omega
theorem lin_step (a b c d q x y : Int) : (a * x + b * y) - q * (c * x + d * y) = (a - q * c) * x + (b - q * d) * y := by
  rw [Int.sub_mul, Int.sub_mul, Int.mul_add, Int.mul_assoc, Int.mul_assoc]
  omega
/-- The numbers in terms of the heads: A = x D + α, B = y D + β. -/
theorem in_heads {x y D α β fa fb : Int} : fa * (x * D + α) + fb * (y * D + β) = (fa * x + fb * y) * D + fa * α + fb * β := by
  rw [Int.mul_add, Int.mul_add, Int.add_mul, Int.mul_assoc, Int.mul_assoc]
  omega

theorem le_div_both {q n d : Int} (hd : 0 < d) (h : q = n / d) : q * d ≤ n ∧ n < (q + 1) * d := by
  have h1 := Int.mul_ediv_add_emod n d
  have h2 := Int.emod_nonneg n (show d ≠ 0 by omega)
  have h3 := Int.emod_lt_of_pos n hd
  rw [← h] at h1
  rw [Int.add_mul, Int.mul_comm q d]
  omega

theorem Leh.step {x y A B D α β fa fb na nb xa yb X Y q : Int} (h : Leh x y A B fa fb na nb xa yb X Y) (hA : A = x * D + α) (hB : B = y * D + β) (hD : 0 < D)
    (ha0 : 0 ≤ α) (ha1 : α ≤ D) (hb0 : 0 ≤ β) (hb1 : β ≤ D) (hda : 0 < yb + na) (hdb : 0 < yb + nb)
    (hq1 : q = (xa + fa) / (yb + na)) (hq2 : q = (xa + fb) / (yb + nb)) :
    Leh x y A B na nb (fa - q * na) (fb - q * nb) yb (xa - q * yb) Y (X - q * Y) ∧ 1 ≤ q ∧ 0 ≤ X - q * Y ∧ X - q * Y < Y := by
  obtain ⟨l1, u1⟩ := le_div_both hda hq1
  obtain ⟨l2, u2⟩ := le_div_both hdb hq2
  have hXe : X = xa * D + fa * α + fb * β := by rw [h.eX, h.exa, hA, hB, in_heads]
  have hYe : Y = yb * D + na * α + nb * β := by rw [h.eY, h.eyb, hA, hB, in_heads]
  have hq : 1 ≤ q := by
    have h0 := h.ord
    rcases h.par with ⟨p1, p2, p3, p4, _⟩ | ⟨p1, p2, p3, p4, _⟩
    · rw [hq1, Int.le_ediv_iff_mul_le hda]; omega
    · rw [hq2, Int.le_ediv_iff_mul_le hdb]; omega
  have e1 : X - q * Y = (xa - q * yb) * D + (fa - q * na) * α + (fb - q * nb) * β := by
    rw [hXe, hYe]
    simp only [Int.sub_mul, Int.mul_add, Int.mul_assoc]
    omega
  have e2 : X - q * Y - Y = (xa - (q + 1) * yb) * D + (fa - (q + 1) * na) * α + (fb - (q + 1) * nb) * β := by
    rw [hXe, hYe]
    simp only [Int.sub_mul, Int.mul_add, Int.add_mul, Int.mul_assoc, Int.one_mul]
    omega
  have hlow : 0 ≤ X - q * Y := by
    rw [e1]
    rcases h.par with ⟨p1, p2, p3, p4, _⟩ | ⟨p1, p2, p3, p4, _⟩
    · have := leh_low (xa := xa) (yb := yb) (D := D) (p := fa) (r := -fb) (s := -na) (t := nb) (q := q) (α := α) (β := β) hD p1 (by omega) (by omega) (by omega) (by omega) ha0 hb1 (by omega)
      rw [show fa + q * -na = fa - q * na by rw [Int.mul_neg]; omega, show -fb + q * nb = -(fb - q * nb) by omega, Int.neg_mul] at this
      omega
    · have := leh_low (xa := xa) (yb := yb) (D := D) (p := fb) (r := -fa) (s := -nb) (t := na) (q := q) (α := β) (β := α) hD p2 (by omega) (by omega) (by omega) (by omega) hb0 ha1 (by omega)
      rw [show fb + q * -nb = fb - q * nb by rw [Int.mul_neg]; omega, show -fa + q * na = -(fa - q * na) by omega, Int.neg_mul] at this
      omega
  have hhigh : X - q * Y - Y < 0 := by
    rw [e2]
    rcases h.par with ⟨p1, p2, p3, p4, _⟩ | ⟨p1, p2, p3, p4, _⟩
    · have := leh_high (xa := xa) (yb := yb) (D := D) (p := fa) (r := -fb) (s := -na) (t := nb) (q := q) (α := α) (β := β) hD p1 (by omega) (by omega) (by omega) (by omega) ha1 hb0 (by rw [show yb - -na = yb + na by omega]; exact u1)
      rw [show fa + (q + 1) * -na = fa - (q + 1) * na by rw [Int.mul_neg]; omega, show -fb + (q + 1) * nb = -(fb - (q + 1) * nb) by omega, Int.neg_mul] at this
      omega
    · have := leh_high (xa := xa) (yb := yb) (D := D) (p := fb) (r := -fa) (s := -nb) (t := na) (q := q) (α := β) (β := α) hD p2 (by omega) (by omega) (by omega) (by omega) hb1 ha0 (by rw [show yb - -nb = yb + nb by omega]; exact u2)
      rw [show fb + (q + 1) * -nb = fb - (q + 1) * nb by rw [Int.mul_neg]; omega, show -fa + (q + 1) * na = -(fa - (q + 1) * na) by omega, Int.neg_mul] at this
      omega
  have hqs : ∀ z : Int, 0 ≤ z → 0 ≤ q * z := fun z hz => Int.mul_nonneg (by omega) hz
  have hqy : 0 ≤ xa - q * yb ∧ xa - q * yb ≤ yb := by
    rcases h.par with ⟨p1, p2, p3, p4, _⟩ | ⟨p1, p2, p3, p4, _⟩
    · have hz := hqs nb (by omega)
      have hz2 := hqs (-na) (by omega)
      rw [Int.mul_neg] at hz2
      rw [Int.mul_add] at l1 l2 u1 u2
      rw [Int.add_mul, Int.one_mul] at u1
      rw [Int.add_mul] at u1
      constructor <;> omega
    · have hz := hqs na (by omega)
      have hz2 := hqs (-nb) (by omega)
      rw [Int.mul_neg] at hz2
      rw [Int.mul_add] at l1 l2 u1 u2
      rw [Int.add_mul, Int.one_mul] at u2
      rw [Int.add_mul] at u2
      constructor <;> omega
  refine ⟨{ par := ?_, exa := h.eyb, eyb := by rw [h.exa, h.eyb]; exact lin_step _ _ _ _ _ _ _, eX := h.eY, eY := by rw [h.eX, h.eY]; exact lin_step _ _ _ _ _ _ _,
            ord := hqy, pos := ⟨hlow, by omega, by have := h.pos; omega⟩, gcd := by rw [gcd_step]; exact h.gcd, less := by have := h.less; constructor <;> omega }, hq, hlow, by omega⟩
  rcases h.par with ⟨p1, p2, p3, p4, p5, p6⟩ | ⟨p1, p2, p3, p4, p5, p6⟩
  · have hz := hqs nb (by omega)
    have hz2 := hqs (-na) (by omega)
    rw [Int.mul_neg] at hz2
    have k1 := par_step (fb := fb) (nb := nb) (xa := xa) (yb := yb) (q := q)
    have k2 := par_step (fb := fa) (nb := na) (xa := xa) (yb := yb) (q := q)
    have hn : q * 1 ≤ q * nb := Int.mul_le_mul_of_nonneg_left p4 (by omega)
    exact .inr ⟨p3, by omega, by omega, by omega, by omega, by omega⟩
  · have hz := hqs na (by omega)
    have hz2 := hqs (-nb) (by omega)
    rw [Int.mul_neg] at hz2
    have k1 := par_step (fb := fb) (nb := nb) (xa := xa) (yb := yb) (q := q)
    have k2 := par_step (fb := fa) (nb := na) (xa := xa) (yb := yb) (q := q)
    have hn : q * 1 ≤ q * (-nb) := Int.mul_le_mul_of_nonneg_left (by omega) (by omega)
    rw [Int.mul_neg] at hn
    exact .inl ⟨p3, by omega, by omega, by omega, by omega, by omega⟩

end Go.Proofs.Ytoknolholccamaa

namespace Go.Proofs.Ytoknolholccamaa
open Go.ChangeShapes Go.WideShapes Go.ChangeAt Go.RowKit
open Go.ChangeMaps (open_string shut_string)
set_option linter.unusedVariables false
set_option linter.unusedSimpArgs false

theorem MadeI.after {B : Nat} {L : List Int} {w w1 w2 : World} {e : Ending} (h : MadeI B L w1 e w2) (hb : Below w.heap.size w w1) : MadeI B L w e w2 := by
  obtain ⟨A, c, he, hc, ho, hb2⟩ := h
  exact ⟨A, c, he, hc, ho, bt hb hb2⟩
theorem MadeI.nil (B : Nat) (w : World) : MadeI B [] w (.returned (.slice none 0 0)) w := ⟨none, 0, rfl, Nat.le_refl _, .inl rfl, Below.refl _ _⟩
theorem below_g {w w1 w2 : World} {g : Nat} (h1 : Below w.heap.size w w1) (hg : w.heap.size ≤ g) (h : w1.grownBy w2 (some g)) : Below w.heap.size w w2 :=
  h1.trans (below_of_grown h h1.size (fun g' e => by injection e with e; omega))
/-- What came in lies in another block than what was made. -/
theorem RdS.apart {w : World} {A : Option Addr} {l : List Int} {g : Nat} (h : RdS w A (vi l)) (hg : w.heap.size ≤ g) : 0 < l.length → ∀ b o, A = some ⟨b, o, none⟩ → b ≠ g := by
  intro h0 b o e
  obtain ⟨b', o', ha, hb, _⟩ := h.block (by rw [vi_length]; exact h0)
  rw [e] at ha
  injection ha with ha
  injection ha with h1 h2
  omega
theorem sum_len {a b n n' e : Nat} (hn : ln a = n) (hn' : ln b = n') (he : n' + 1 ≤ n + e) (he0 : 1 ≤ e) : ln (a + b) ≤ n + e := by
  rw [ln_le_iff]
  have h1 := ln_lt a
  have h2 := ln_lt b
  rw [hn] at h1
  rw [hn'] at h2
  obtain ⟨M, hM⟩ : ∃ M, n + e = M + 1 := ⟨n + e - 1, by omega⟩
  have h3 := pw_le (show n ≤ M by omega)
  have h4 := pw_le (show n' ≤ M by omega)
  rw [hM, pw_succ]
  omega
theorem ln_lt' {v n : Nat} (h : ln v = n) : (v : Int) < pw n := by subst h; exact ln_lt v
theorem lay_lay {L : List Int} {off k : Nat} (T U : Int) (h : off + k ≤ L.length) : lay (lay L off T k) off U k = lay L off U k := by
  have hl := lay_length T h
  have h1 : (lay L off T k).take off = L.take off := by
    unfold lay
    rw [List.take_append_of_le_length (by simp; omega), List.take_take, Nat.min_self]
  have h2 : (lay L off T k).drop (off + k) = L.drop (off + k) := by
    have e : (L.take off ++ row k T).length = off + k := by simp [row_length]; omega
    unfold lay
    rw [← List.append_assoc, List.drop_append, List.drop_of_length_le (by omega), e, Nat.sub_self]
    simp
  show (lay L off T k).take off ++ (row k U ++ (lay L off T k).drop (off + k)) = _
  rw [h1, h2]
  rfl
/-- A change in the window of a row is a change of the whole. -/
theorem lay_row {N i k : Nat} {P Q x : Int} (hN : i + k ≤ N) (hQ : Q = P + x * pw i) (hP0 : 0 ≤ P) (hP : P < pw (i + k)) (hQ0 : 0 ≤ Q) (hQ' : Q < pw (i + k)) :
    lay (row N P) i (P / pw i + x) k = row N Q := by
  have hdiv : Q / pw i = P / pw i + x := by rw [hQ, Int.add_mul_ediv_right _ _ (pw_ne i)]
  have hmod : Q % pw i = P % pw i := by rw [hQ, Int.add_mul_emod_self_right]
  apply List.ext_getElem?
  intro j
  rcases Nat.lt_or_ge j i with h1 | h1
  · rw [lay_out _ (by rw [row_length]; exact hN) (.inl h1), row_get _ (by omega), row_get _ (by omega), dgt_congr hmod.symm h1]
  · obtain ⟨t, rfl⟩ := Nat.exists_eq_add_of_le h1
    rcases Nat.lt_or_ge t k with h2 | h2
    · rw [lay_in _ (by rw [row_length]; exact hN) h2, row_get _ (by omega), ← hdiv, dgt_shift]
    · rw [lay_out _ (by rw [row_length]; exact hN) (.inr (by omega))]
      rcases Nat.lt_or_ge (i + t) N with h3 | h3
      · rw [row_get _ h3, row_get _ h3, dgt_small hP0 hP (by omega), dgt_small hQ0 hQ' (by omega)]
      · rw [List.getElem?_eq_none (by rw [row_length]; exact h3), List.getElem?_eq_none (by rw [row_length]; exact h3)]

end Go.Proofs.Ytoknolholccamaa

namespace Go.Proofs.Ytoknolholccamaa
open Go.ChangeShapes Go.WideShapes Go.ChangeAt Go.RowKit
open Go.ChangeMaps (open_string shut_string)
set_option linter.unusedVariables false
set_option linter.unusedSimpArgs false

/-- The product of the lowest i digits of a with b. -/
def part (a b : Int) (i : Nat) : Int := a % pw i * b
theorem part_zero (a b : Int) : part a b 0 = 0 := by unfold part; rw [mod_zero, Int.zero_mul]
theorem part_succ (a b : Int) (i : Nat) : part a b (i + 1) = part a b i + dgt a i * b * pw i := by
  unfold part
  rw [mod_succ, Int.add_mul, Int.mul_assoc, Int.mul_assoc, Int.mul_comm (pw i)]
theorem part_nonneg {a b : Int} (hb : 0 ≤ b) (i : Nat) : 0 ≤ part a b i := Int.mul_nonneg (mod_nonneg _ _) hb
theorem part_lt {a b : Int} {m : Nat} (hb : 0 ≤ b) (h : b < pw m) (i : Nat) : part a b i < pw (i + m) := by
  unfold part
  rw [pw_add]
  exact Int.lt_of_le_of_lt (Int.mul_le_mul_of_nonneg_left (Int.le_of_lt h) (mod_nonneg a i)) (Int.mul_lt_mul_of_pos_right (mod_lt a i) (pw_pos m))
theorem part_all {a b : Int} {n : Nat} (ha : 0 ≤ a) (h : a < pw n) : part a b n = a * b := by unfold part; rw [mod_self_of ha h]
theorem mul_len {a b n n' : Nat} (hn : ln a = n) (hn' : ln b = n') : ln (a * b) ≤ n + n' := by
  rw [ln_le_iff, pw_add, Int.natCast_mul]
  have h1 := ln_lt' hn
  have h2 := ln_lt' hn'
  exact Int.lt_of_le_of_lt (Int.mul_le_mul_of_nonneg_left (Int.le_of_lt h2) (by omega)) (Int.mul_lt_mul_of_pos_right h1 (pw_pos n'))

end Go.Proofs.Ytoknolholccamaa

namespace Go.Proofs.Ytoknolholccamaa
open Go.ChangeShapes Go.WideShapes Go.ChangeAt Go.RowKit
open Go.ChangeMaps (open_string shut_string)
set_option linter.unusedVariables false
set_option linter.unusedSimpArgs false

end Go.Proofs.Ytoknolholccamaa

namespace Go.Proofs.Ytoknolholccamaa
open Go.ChangeShapes Go.WideShapes Go.ChangeAt Go.RowKit
open Go.ChangeMaps (open_string shut_string)
set_option linter.unusedVariables false
set_option linter.unusedSimpArgs false

/-- A row of the call's own with the digits of T, zeros behind them let in. -/
def RowI (B T : Nat) (w : World) (e : Ending) (w' : World) : Prop :=
  ∃ A c K, e = .returned (.slice A K c) ∧ K ≤ c ∧ c ≤ maxLen ∧ K ≤ 1048576 ∧ ln T ≤ K ∧ OwnS B w' A (vi (row K T)) ∧ Below w.heap.size w w'
theorem row_own {B K T : Nat} {w w' : World} {v : Value} (h : w'.ownsRow B 3 1 v K (vi (row K T))) (hb : Below w.heap.size w w') (hK : K ≤ 1048576) (hT : ln T ≤ K) : RowI B T w (.returned v) w' := by
  obtain ⟨A, c, rfl, hc, hm, hl⟩ := own_len h
  exact ⟨A, c, K, rfl, hc, hm, hK, hT, OwnS.of_own h, hb⟩
theorem car_nonneg {v w f : Int} (hf : 0 ≤ f) (i : Nat) : 0 ≤ car v w f i :=
  Int.ediv_nonneg (Int.add_nonneg (mod_nonneg _ _) (Int.mul_nonneg hf (mod_nonneg _ _))) (Int.le_of_lt (pw_pos i))
theorem add_top {a b k n n' : Nat} (hn : ln a = n) (hn' : ln b = n') (h1 : n ≤ k) (h2 : n' ≤ k) : car a b 1 k = ((a + b : Nat) : Int) / pw k := by
  have h3 := ln_lt' hn
  have h4 := ln_lt' hn'
  rw [car_all (by omega) (Int.lt_of_lt_of_le h3 (pw_le h1)) (by omega) (Int.lt_of_lt_of_le h4 (pw_le h2))]
  congr 1
  omega
theorem add_more {a b k n n' M : Nat} (hn : ln a = n) (hn' : ln b = n') (h1 : n ≤ M) (h2 : n' ≤ M) (hk : k ≤ M + 1) (hnk : n ≤ k) (hnk' : n' ≤ k) (hc : 0 < car a b 1 k) : k < M + 1 := by
  rcases Nat.lt_or_ge k (M + 1) with h | h
  · exact h
  · rw [add_top hn hn' hnk hnk'] at hc
    have h3 := ln_lt' hn
    have h4 := ln_lt' hn'
    have h5 := pw_le h1
    have h6 := pw_le h2
    have h7 := pw_le h
    rw [pw_succ] at h7
    rw [div_small (by omega) (by omega)] at hc
    omega

end Go.Proofs.Ytoknolholccamaa

namespace Go.Proofs.Ytoknolholccamaa
open Go.ChangeShapes Go.WideShapes Go.ChangeAt Go.RowKit
open Go.ChangeMaps (open_string shut_string)
set_option linter.unusedVariables false
set_option linter.unusedSimpArgs false

end Go.Proofs.Ytoknolholccamaa

namespace Go.Proofs.Ytoknolholccamaa
open Go.ChangeShapes Go.WideShapes Go.ChangeAt Go.RowKit
open Go.ChangeMaps (open_string shut_string)
set_option linter.unusedVariables false
set_option linter.unusedSimpArgs false
set_option maxRecDepth 4000

theorem last_digit {P b x : Int} {k m : Nat} (hb0 : 0 ≤ b) (hb : b < pw m) (hP0 : 0 ≤ P / pw k) (hP : P / pw k < pw m) (hx0 : 0 ≤ x) (hT : P / pw k + x * b < pw (m + 1)) :
    car (P / pw k) b x m = dgt (P / pw k + x * b) m := by
  rw [car_all hP0 hP hb0 hb]
  unfold dgt
  rw [pw_succ] at hT
  have h0 : 0 ≤ P / pw k + x * b := Int.add_nonneg hP0 (Int.mul_nonneg hx0 hb0)
  have h1 := Int.ediv_nonneg h0 (Int.le_of_lt (pw_pos m))
  have h2 := Int.ediv_lt_of_lt_mul (pw_pos m) (show P / pw k + x * b < 1000000000 * pw m by rw [Int.mul_comm 1000000000]; exact hT)
  omega

end Go.Proofs.Ytoknolholccamaa

namespace Go.Proofs.Ytoknolholccamaa
open Go.ChangeShapes Go.WideShapes Go.ChangeAt Go.RowKit
open Go.ChangeMaps (open_string shut_string)
set_option linter.unusedVariables false
set_option linter.unusedSimpArgs false

/-- What an operation on two lists answers. -/
def binL (F : Nat → Nat → List Int) (l m : List Int) : List Int := if ok l && ok m then F (val l) (val m) else []
def addF (a b : Nat) : List Int := cap60 (a + b)
def subF (a b : Nat) : List Int := if b ≤ a then nd (a - b) else []
def mulF (a b : Nat) : List Int := cap60 (a * b)
theorem cap60_len (v : Nat) : (cap60 v).length ≤ 60 := by
  unfold cap60
  split
  · rw [nd_length]; assumption
  · simp
theorem binL_len {F : Nat → Nat → List Int} (h : ∀ a b, ln a ≤ 60 → ln b ≤ 60 → (F a b).length ≤ 60) (l m : List Int) : (binL F l m).length ≤ 60 := by
  unfold binL
  split
  · rename_i hk
    rw [Bool.and_eq_true] at hk
    obtain ⟨a, rfl, ha⟩ := ok_nd hk.1
    obtain ⟨b, rfl, hb⟩ := ok_nd hk.2
    rw [val_nd, val_nd]
    exact h a b ha hb
  · simp
theorem subF_len (a b : Nat) (h : ln a ≤ 60) : (subF a b).length ≤ 60 := by
  unfold subF
  split
  · rw [nd_length]
    have := ln_mono (show a - b ≤ a by omega)
    omega
  · simp

section
variable (l m : List Int) (A D : Option Addr) (n c n' d : Nat) (w : World)

end
end Go.Proofs.Ytoknolholccamaa

namespace Go.Proofs.Ytoknolholccamaa
open Go.ChangeShapes Go.WideShapes Go.ChangeAt Go.RowKit
open Go.ChangeMaps (open_string shut_string)
set_option linter.unusedVariables false
set_option linter.unusedSimpArgs false
set_option maxRecDepth 4000

theorem append_ints {ops : Array Oper} {rest : List Oper} {o : Oper} {a : Act} {Q : Exit → Act → World → Prop} (hgd : o.guard = none) (f x : Operand)
    (ho : o.op = .call { callee := .builtin .append, args := #[f, x], argTypes := #[47, 47] })
    (B n m c : Nat) (v : Value) (xs ys : List Int) (ad : Addr) (w : World) (hf : a.eval f = v) (hx : a.eval x = .slice (some ad) m c)
    (hown : w.ownsRow B 3 1 v n (vi xs)) (hn : n ≤ 1048576) (hm : m ≤ 1048576) (hl : ys.length = m) (hr : RdS w (some ad) (vi ys)) (hB : B ≤ w.heap.size)
    (h : ∀ v' w', w'.ownsRow B 3 1 v' (n + m) (vi (xs ++ ys)) → Below B w w' → w.heap.size ≤ w'.heap.size → wpList Try.prog ops Q rest (a.put o.dst v') w') :
    wpList Try.prog ops Q (o :: rest) a w := by
  obtain ⟨i0, hi, hz0, hz1, hz2⟩ := info_parts int_info
  refine wpList_append_own w hgd f x 47 ho B 3 i0 _ 1 8 Try.underlying47 hi hz0 hz1 hz2 rfl (by decide) v n (vi xs) hf hown ad m c (vi ys) hx (by rw [vi_length, hl, Nat.mul_one]) ?_ ?_ (by simp only [maxLen]; omega) (by omega) hB ?_
  · intro j u hu
    have hj : j < (vi ys).length := (List.getElem?_eq_some_iff.1 hu).1
    obtain ⟨b', o', ha, _, hc⟩ := hr.block (by omega)
    injection ha with ha
    subst ha
    rw [add_plain, hc j hj, hu]
  · intro u hu
    obtain ⟨y, _, rfl⟩ := List.mem_map.1 hu
    rfl
  · intro v' w' h1 h2 _
    refine h v' w' (by rw [vi_append]; exact h1) ?_ h2.size
    refine (Below.refl B w).grown h2 hB (fun g hg => ?_)
    rcases hown.2 with ⟨rfl, _⟩ | ⟨g', cap, cur, rfl, hbg, _⟩
    · simp [Value.ownBlock] at hg
    · simp [Value.ownBlock] at hg
      omega


/-- 'append' of nothing onto a row of the call's own. -/
theorem run_app_nil (w : World) (ty : TypeId) (B n c : Nat) (v : Value) (xs : List Value) (hown : w.ownsRow B 3 1 v n xs) : (Builtin.append_ #[47, 47] ty #[v, .slice none 0 c]).run Try.prog w = .ok v w := by
  obtain ⟨i0, hi, hz0, hz1, hz2⟩ := info_parts int_info
  have hu := run_underlying (P := Try.prog) Try.underlying47
  have hr := hown.2
  clear hown
  rcases hr with ⟨hv, _⟩ | ⟨g, cap, cur, hv, _, _, hnc, _⟩
  · subst hv
    simp [Builtin.append_, hu, sizeOf, typeInfo, hi, Builtin.lenOf, Builtin.firstCells]
  · subst hv
    simp [Builtin.append_, hu, sizeOf, typeInfo, hi, Builtin.lenOf, Builtin.firstCells, hnc, storeCells]
theorem append_rd {ops : Array Oper} {rest : List Oper} {o : Oper} {a : Act} {Q : Exit → Act → World → Prop} (hgd : o.guard = none) (f x : Operand)
    (ho : o.op = .call { callee := .builtin .append, args := #[f, x], argTypes := #[47, 47] })
    (B n m c : Nat) (v : Value) (xs ys : List Int) (A : Option Addr) (w : World) (hf : a.eval f = v) (hx : a.eval x = .slice A m c)
    (hown : w.ownsRow B 3 1 v n (vi xs)) (hn : n ≤ 1048576) (hm : m ≤ 1048576) (hl : ys.length = m) (hr : RdS w A (vi ys)) (hB : B ≤ w.heap.size)
    (h : ∀ v' w', w'.ownsRow B 3 1 v' (n + m) (vi (xs ++ ys)) → Below B w w' → w.heap.size ≤ w'.heap.size → wpList Try.prog ops Q rest (a.put o.dst v') w') :
    wpList Try.prog ops Q (o :: rest) a w := by
  cases A with
  | some ad => exact append_ints hgd f x ho B n m c v xs ys ad w hf hx hown hn hm hl hr hB h
  | none =>
    have hy : ys = [] := by
      rcases hr with hr | ⟨b, off, ha, _⟩
      · cases ys with
        | nil => rfl
        | cons y t => simp [vi] at hr
      · cases ha
    subst hy
    obtain rfl : m = 0 := hl.symm
    refine wpList_plain hgd fun K hK => ?_
    have hrun := run_app_nil w o.type B n c v (vi xs) hown
    unfold Oper.wp
    simp [execOp, ho, resolve, invoke, builtin, hf, hx, hrun, Result.andThen]
    exact hK _ _ (h v w (by simpa using hown) (Below.refl _ _) (Nat.le_refl _))

end Go.Proofs.Ytoknolholccamaa

