/-
  Common words of this seat's proofs: small lemmas on worlds, on strings as lists of bytes, and the row's last steps.
-/
import Derived.Test.YtennekieiioilaaGreatRows
import Derived.WalkKit
import Derived.ProofKit
import Derived.ShutString
import Derived.Lib.Hide
import Derived.Deep.QuietTactic
import Derived.BigQuiet
import Derived.Outline
import Derived.WalkSmall
import Derived.ChangeSlices
import Derived.SliceStrings
import Derived.RegionCalls
import Derived.Deep.RegionWith
import Derived.Deep.RegionHeld3
import Derived.Laws.CopyOwn
namespace Go.Proofs.YtennekieiioilaaGreat
open Go.ChangeShapes Go.WideShapes Go.ChangeAt Go.RowKit
open Go.ChangeMaps (open_string shut_string)
set_option linter.unusedVariables false
set_option linter.unusedSimpArgs false

theorem own : ownKnob Tryz.prog.godebug = none := by kernel_rfl

section
variable {H : Type} {enc : TypeId × Value → H} {P : Program}
theorem post_of_below {f : Func} {s : ChangeSpec} {apart fresh handsOn again : Bool} {W W' : World} {args : Array Value} {v : Value} {ds gs : List (DataW H)} {before pa pv : List MemPlace}
    (hW : DataW.Whole enc P f.params.toList s.vars apart W args.toList ds gs before)
    (hres : ∀ (b : Nat) (sp : Nat → Bool) (hd : Bool), DataW.TrodAll enc P W' b sp hd f.resultTypes.toList (v.resultList f.resultTypes.size) (s.fn H (ds ++ gs)).results [])
    (hargs : ∀ sp : Nat → Bool, (∀ p ∈ before, sp p.block = true) → DataW.TrodAll enc P W' 0 sp true f.params.toList args.toList (s.fn H (ds ++ gs)).args pa)
    (hvars : ∀ sp : Nat → Bool, (∀ p ∈ before, sp p.block = true) → DataW.TrodVars enc P W' sp s.vars (s.fn H (ds ++ gs)).vars pv)
    (hps : before = pa ++ pv) (hb : Below W.heap.size W W')
    (hok : ∀ (j : Nat) (t : TypeId) (r : Value), f.resultTypes[j]? = some t → (v.resultList f.resultTypes.size)[j]? = some r → Value.okWide P W' .any 0 t r) :
    s.post enc P f apart fresh handsOn again W args v W' := by
  have hlt : ∀ p ∈ before, p.block < W.heap.size := fun p hp => hW.lt p hp
  have hold : ∀ p ∈ before, (fun b => decide (b < W.heap.size)) p.block = true := fun p hp => by simpa using hlt p hp
  refine ⟨ds, gs, before, [], pa, pv, hW, hres _ _ _, hargs _ hold, hvars _ hold, World.keptBut_mono (fun p hp => ⟨hp, ?_⟩) (hb.frame (· ∈ before)), fun _ => ?_⟩
  · rw [hps, List.mem_append] at hp
    exact Or.inr hp
  · obtain ⟨_, _, _, _, _, hz, hn⟩ := hW
    refine ⟨hok, _, _, ([] ++ pa) ++ pv, ⟨[] ++ pa, pv, trodAll_append (hargs _ (fun _ _ => rfl)) (hres _ _ _), hvars _ (fun _ _ => rfl), rfl, ?_, ?_⟩, ?_⟩
    · intro b off hp
      have hin : MemPlace.cell b off ∈ before := by rw [hps]; simpa using hp
      rw [hb.frozen (hlt _ hin)]
      exact hz b off hin
    · intro ha
      have := hn ha
      rw [hps] at this
      simpa using this
    · intro p hp _
      rw [hps]
      simpa using hp
end

/-- A string iterator's block is new: below it nothing has turned. -/
theorem below_iter {B : Nat} {a w : World} (h : Below B a w) (hB : B ≤ w.heap.size) (s : ByteArray) (pos : Nat) : Below B a (w.iter s pos) := h.alloc hB _
theorem below_drewN {B : Nat} {a w : World} (h : Below B a w) (n : Nat) : Below B a (w.drewN n) := ⟨h.os, h.tape, h.output, h.size, h.block⟩

theorem width_pos (s : ByteArray) (pos : Nat) (h : pos < s.size) : 1 ≤ (Utf8.decode s pos).2 := by
  by_cases ha : (s[pos]'h).toNat < 128
  · rw [decode_ascii s pos h ha]
    exact Nat.le_refl _
  · exact (decode_high s pos h (by omega)).2
theorem isEmpty_pos {s : ByteArray} (h : 0 < s.size) : s.toList.isEmpty = false := by
  rw [ByteArray.toList_eq, List.isEmpty_eq_false_iff]
  intro e
  have : s.data.toList.length = 0 := by rw [e]; rfl
  have h2 : s.data.toList.length = s.size := by simp
  omega
theorem isEmpty_zero {s : ByteArray} (h : ¬ 0 < s.size) : s.toList.isEmpty = true := by
  rw [ByteArray.toList_eq, List.isEmpty_iff]
  have h2 : s.data.toList.length = s.size := by simp
  exact List.eq_nil_of_length_eq_zero (by omega)
end Go.Proofs.YtennekieiioilaaGreat

namespace Go.Proofs.YtennekieiioilaaGreat
open Go.ChangeShapes Go.WideShapes Go.ChangeAt Go.RowKit
open Go.ChangeMaps (open_string shut_string)
set_option linter.unusedVariables false
set_option linter.unusedSimpArgs false

/-- The slice that begins at A reads as the values l. -/
def RdS (w : World) (A : Option Addr) (l : List Value) : Prop :=
  l = [] ∨ ∃ b off, A = some ⟨b, off, none⟩ ∧ b < w.heap.size ∧ ∀ j, j < l.length → w.cell? ⟨b, off + j, none⟩ = l[j]?
/-- The slice that begins at A is a row of the call's own, in a block from B on; it reads as the values l and may be written. -/
def OwnS (B : Nat) (w : World) (A : Option Addr) (l : List Value) : Prop :=
  l = [] ∨ ∃ g, A = some ⟨g, 0, none⟩ ∧ B ≤ g ∧ g < w.heap.size ∧ (∀ j, j < l.length → w.cell? ⟨g, j, none⟩ = l[j]?) ∧ ∀ j, j < l.length → w.frozen? ⟨g, j, none⟩ = false

theorem OwnS.rd {B : Nat} {w : World} {A : Option Addr} {l : List Value} (h : OwnS B w A l) : RdS w A l := by
  rcases h with h | ⟨g, ha, _, hs, hc, _⟩
  · exact .inl h
  · exact .inr ⟨g, 0, ha, hs, fun j hj => by rw [Nat.zero_add]; exact hc j hj⟩
theorem RdS.below {w w' : World} {A : Option Addr} {l : List Value} (h : RdS w A l) (hb : Below w.heap.size w w') : RdS w' A l := by
  rcases h with h | ⟨b, off, ha, hs, hc⟩
  · exact .inl h
  · exact .inr ⟨b, off, ha, Nat.lt_of_lt_of_le hs hb.size, fun j hj => by rw [hb.cell (p := ⟨b, off + j, none⟩) hs]; exact hc j hj⟩
theorem OwnS.below {B : Nat} {w w' : World} {A : Option Addr} {l : List Value} (h : OwnS B w A l) (hb : Below w.heap.size w w') : OwnS B w' A l := by
  rcases h with h | ⟨g, ha, hB, hs, hc, hf⟩
  · exact .inl h
  · refine .inr ⟨g, ha, hB, Nat.lt_of_lt_of_le hs hb.size, fun j hj => ?_, fun j hj => ?_⟩
    · rw [hb.cell (p := ⟨g, j, none⟩) hs]; exact hc j hj
    · rw [hb.frozen (p := ⟨g, j, none⟩) hs]; exact hf j hj
/-- A row from B on is untouched where only blocks below B have turned. -/
theorem OwnS.far {B C : Nat} {w w' : World} {A : Option Addr} {l : List Value} (h : OwnS B w A l) (hk : ∀ k, B ≤ k → k < C → w'.heap[k]? = w.heap[k]?) (hC : w.heap.size ≤ C) (hz : w.heap.size ≤ w'.heap.size) : OwnS B w' A l := by
  rcases h with h | ⟨g, ha, hB, hs, hc, hf⟩
  · exact .inl h
  · have hg := hk g hB (by omega)
    refine .inr ⟨g, ha, hB, by omega, fun j hj => ?_, fun j hj => ?_⟩
    · rw [World.cell?_of_block (w := w) (a := ⟨g, j, none⟩) hg]; exact hc j hj
    · rw [World.frozen?_of_block (w := w) (a := ⟨g, j, none⟩) hg]; exact hf j hj
theorem RdS.lt_block {w : World} {A : Option Addr} {l : List Value} (h : RdS w A l) {w' : World} {C : Nat} (hA : ∀ b off, A = some ⟨b, off, none⟩ → b < C) (hb : Below C w w') : RdS w' A l := by
  rcases h with h | ⟨b, off, ha, hs, hc⟩
  · exact .inl h
  · exact .inr ⟨b, off, ha, Nat.lt_of_lt_of_le hs hb.size, fun j hj => by rw [hb.cell (p := ⟨b, off + j, none⟩) (hA _ _ ha)]; exact hc j hj⟩
/-- What append's laws leave. -/
theorem OwnS.of_own {w : World} {base : Nat} {e : TypeId} {A : Option Addr} {n c : Nat} {l : List Value} (h : w.ownsRow base e 1 (.slice A n c) n l) : OwnS base w A l := by
  by_cases h0 : l = []
  · exact .inl h0
  · have hn : 0 < n := by
      have := h.1
      rcases Nat.eq_zero_or_pos n with h1 | h1
      · subst h1; simp at this; exact absurd this h0
      · exact h1
    have hl : l.length = n := by have := h.1; omega
    rcases h.2 with ⟨_, he⟩ | ⟨g, cap, cur, hv, hbg, hh, hnc, _, hsz, htake⟩
    · omega
    · have hA : A = some ⟨g, 0, none⟩ := by injection hv
      refine .inr ⟨g, hA, hbg, (Array.getElem?_eq_some_iff.1 hh).1, fun j hj => ?_, fun j hj => ?_⟩
      · rw [cell_of_row w g j cur e (0, 0) hh, ← htake, List.getElem?_take, if_pos (by omega)]
        simp
      · simp [World.frozen?, hh]
theorem own_len {w : World} {base : Nat} {e : TypeId} {v : Value} {n : Nat} {l : List Value} (h : w.ownsRow base e 1 v n l) : ∃ A c, v = .slice A n c ∧ n ≤ c ∧ c ≤ maxLen ∧ l.length = n := by
  have hl := h.1
  rcases h.2 with ⟨hv, hn⟩ | ⟨g, cap, cur, hv, hbg, hh, hnc, hm, hsz, htake⟩
  · exact ⟨none, 0, by rw [hv, hn], by omega, by simp [maxLen], by omega⟩
  · exact ⟨some ⟨g, 0, none⟩, cap, hv, hnc, hm, by omega⟩
/-- The block of a row that is not empty. -/
theorem OwnS.block {B : Nat} {w : World} {A : Option Addr} {l : List Value} (h : OwnS B w A l) (h0 : 0 < l.length) : ∃ g, A = some ⟨g, 0, none⟩ ∧ B ≤ g ∧ g < w.heap.size ∧ (∀ j, j < l.length → w.cell? ⟨g, j, none⟩ = l[j]?) ∧ ∀ j, j < l.length → w.frozen? ⟨g, j, none⟩ = false := by
  rcases h with h | h
  · subst h; simp at h0
  · exact h
theorem RdS.block {w : World} {A : Option Addr} {l : List Value} (h : RdS w A l) (h0 : 0 < l.length) : ∃ b off, A = some ⟨b, off, none⟩ ∧ b < w.heap.size ∧ ∀ j, j < l.length → w.cell? ⟨b, off + j, none⟩ = l[j]? := by
  rcases h with h | h
  · subst h; simp at h0
  · exact h
/-- A prefix of a row. -/
theorem OwnS.take {B : Nat} {w : World} {A : Option Addr} {l : List Value} (h : OwnS B w A l) (k : Nat) : OwnS B w A (l.take k) := by
  rcases h with h | ⟨g, ha, hB, hs, hc, hf⟩
  · exact .inl (by rw [h, List.take_nil])
  · refine .inr ⟨g, ha, hB, hs, fun j hj => ?_, fun j hj => ?_⟩
    · rw [List.length_take] at hj
      rw [hc j (by omega), List.getElem?_take, if_pos (by omega)]
    · rw [List.length_take] at hj
      exact hf j (by omega)
theorem OwnS.more {B B' : Nat} {w : World} {A : Option Addr} {l : List Value} (h : OwnS B w A l) (hB : B' ≤ B) : OwnS B' w A l := by
  rcases h with h | ⟨g, ha, hb, hs, hc, hf⟩
  · exact .inl h
  · exact .inr ⟨g, ha, by omega, hs, hc, hf⟩

/-- The strings of a list, as values. -/
def vs (l : List ByteArray) : List Value := l.map Value.string
theorem vs_length (l : List ByteArray) : (vs l).length = l.length := by simp [vs]
theorem vs_get {l : List ByteArray} {k : Nat} (h : k < l.length) : (vs l)[k]? = some (.string l[k]) := by simp [vs, h]
theorem vs_append (l m : List ByteArray) : vs (l ++ m) = vs l ++ vs m := by simp [vs]
theorem vs_take (l : List ByteArray) (k : Nat) : vs (l.take k) = (vs l).take k := by simp [vs]
/-- The first k elements agree. -/
def AgreeTo (l m : List ByteArray) (k : Nat) : Prop := ∀ j, j < k → l[j]? = m[j]?
theorem AgreeTo.zero (l m : List ByteArray) : AgreeTo l m 0 := fun _ h => absurd h (by omega)
theorem AgreeTo.succ {l m : List ByteArray} {k : Nat} (h : AgreeTo l m k) (h1 : l[k]? = m[k]?) : AgreeTo l m (k + 1) := fun j hj => by
  rcases Nat.lt_or_ge j k with h2 | h2
  · exact h j h2
  · obtain rfl : j = k := by omega
    exact h1
theorem AgreeTo.all {l m : List ByteArray} (h : AgreeTo l m l.length) (hl : l.length = m.length) : l = m := by
  apply List.ext_getElem?
  intro j
  rcases Nat.lt_or_ge j l.length with h2 | h2
  · exact h j h2
  · rw [List.getElem?_eq_none h2, List.getElem?_eq_none (by omega)]

theorem grown_trans_below {w w1 w2 : World} {row : Option Nat} (h : w.grownBy w1 row) (k : Below w1.heap.size w1 w2) : w.grownBy w2 row :=
  ⟨k.os.trans h.os, k.tape.trans h.tape, k.output.trans h.output, Nat.le_trans h.size k.size, fun i hi hne => (k.block i (Nat.lt_of_lt_of_le hi h.size)).trans (h.block i hi hne)⟩
theorem grown_setCell {w w1 : World} {g : Nat} (h : w.grownBy w1 (some g)) (o : Nat) (u : Value) : w.grownBy (w1.setCell ⟨g, o, none⟩ u) (some g) :=
  ⟨h.os, h.tape, h.output, by simpa [World.setCell] using h.size, fun i hi hne => (Below.heap_setCell w1 ⟨g, o, none⟩ u i (by rintro rfl; exact hne rfl)).trans (h.block i hi hne)⟩
theorem grown_refl (w : World) (row : Option Nat) : w.grownBy w row := ⟨rfl, rfl, rfl, Nat.le_refl _, fun _ _ _ => rfl⟩
/-- Only blocks from B on have turned. -/
theorem below_of_grown {B : Nat} {w w' : World} {row : Option Nat} (h : w.grownBy w' row) (hB : B ≤ w.heap.size) (hr : ∀ g, row = some g → B ≤ g) : Below B w w' := (Below.refl _ _).grown h hB hr

/-- The block that a row of n places at A lies in. -/
def rowOf (n : Nat) (A : Option Addr) : Option Nat := if n = 0 then none else A.map (·.block)
/-- A row of n places at A while its first i places are being written: what f says stands there; the others hold something; all may be written. -/
def Filling (B : Nat) (w wr : World) (A : Option Addr) (n : Nat) (f : Nat → Value) (i : Nat) : Prop :=
  w.grownBy wr (rowOf n A) ∧ (n = 0 ∨ ∃ g, A = some ⟨g, 0, none⟩ ∧ B ≤ g ∧ g < wr.heap.size ∧ (∀ j, j < n → wr.frozen? ⟨g, j, none⟩ = false) ∧ (∀ j, j < i → wr.cell? ⟨g, j, none⟩ = some (f j)) ∧ ∀ j, j < n → ∃ u, wr.cell? ⟨g, j, none⟩ = some u)
theorem Filling.start {B : Nat} {w : World} {A : Option Addr} {l : List Value} {n : Nat} (h : OwnS B w A l) (hl : l.length = n) (f : Nat → Value) : Filling B w w A n f 0 := by
  refine ⟨grown_refl _ _, ?_⟩
  rcases h with h | ⟨g, ha, hB, hs, hc, hf⟩
  · left; subst h; simpa using hl.symm
  · refine .inr ⟨g, ha, hB, hs, fun j hj => hf j (by omega), fun j hj => absurd hj (by omega), fun j hj => ⟨l[j]'(by omega), ?_⟩⟩
    rw [hc j (by omega), List.getElem?_eq_getElem (by omega)]
theorem Filling.below {B : Nat} {w wr w1 : World} {A : Option Addr} {n i : Nat} {f : Nat → Value} (h : Filling B w wr A n f i) (hb : Below wr.heap.size wr w1) : Filling B w w1 A n f i := by
  obtain ⟨hg, hr⟩ := h
  refine ⟨grown_trans_below hg hb, ?_⟩
  rcases hr with hr | ⟨g, ha, hB, hs, hf, hc, he⟩
  · exact .inl hr
  · refine .inr ⟨g, ha, hB, Nat.lt_of_lt_of_le hs hb.size, fun j hj => ?_, fun j hj => ?_, fun j hj => ?_⟩
    · rw [hb.frozen (p := ⟨g, j, none⟩) hs]; exact hf j hj
    · rw [hb.cell (p := ⟨g, j, none⟩) hs]; exact hc j hj
    · rw [hb.cell (p := ⟨g, j, none⟩) hs]; exact he j hj
theorem Filling.at_ {B : Nat} {w wr : World} {A : Option Addr} {n i : Nat} {f : Nat → Value} (h : Filling B w wr A n f i) (hi : i < n) : ∃ g u, A = some ⟨g, 0, none⟩ ∧ g < wr.heap.size ∧ wr.cell? ⟨g, i, none⟩ = some u ∧ wr.frozen? ⟨g, i, none⟩ = false := by
  obtain ⟨_, hr⟩ := h
  rcases hr with hr | ⟨g, ha, _, hs, hf, _, he⟩
  · omega
  · obtain ⟨u, hu⟩ := he i hi
    exact ⟨g, u, ha, hs, hu, hf i hi⟩
theorem Filling.step {B : Nat} {w wr : World} {g : Nat} {n i : Nat} {f : Nat → Value} (h : Filling B w wr (some ⟨g, 0, none⟩) n f i) (hi : i < n) {x : Value} (hx : x = f i) : Filling B w (wr.setCell ⟨g, i, none⟩ x) (some ⟨g, 0, none⟩) n f (i + 1) := by
  obtain ⟨hg, hr⟩ := h
  have hrow : rowOf n (some ⟨g, 0, none⟩) = some g := by rw [rowOf, if_neg (by omega)]; rfl
  rw [hrow] at hg
  refine ⟨by rw [hrow]; exact grown_setCell hg i x, ?_⟩
  rcases hr with hr | ⟨g', ha, hB, hs, hf, hc, he⟩
  · omega
  · obtain rfl : g = g' := by injection ha with e; injection e
    have hsome : ∀ j, j < n → ∀ u, wr.cell? ⟨g, j, none⟩ = some u → (wr.setCell ⟨g, i, none⟩ x).cell? ⟨g, j, none⟩ = some (if j = i then x else u) := by
      intro j hj u hu
      by_cases e : j = i
      · subst e
        rw [if_pos rfl]
        exact World.cell?_setCell_same wr ⟨g, j, none⟩ x hu
      · rw [if_neg e, World.cell?_setCell_other wr ⟨g, i, none⟩ ⟨g, j, none⟩ x (by intro q; injection q with _ q2; exact e q2.symm)]
        exact hu
    refine .inr ⟨g, rfl, hB, by simpa [World.setCell] using hs, fun j hj => ?_, fun j hj => ?_, fun j hj => ?_⟩
    · rw [World.frozen?_setCell]; exact hf j hj
    · by_cases e : j = i
      · subst e
        obtain ⟨u, hu⟩ := he j hi
        rw [hsome j hi u hu, if_pos rfl, hx]
      · rw [hsome j (by omega) _ (hc j (by omega)), if_neg e]
    · obtain ⟨u, hu⟩ := he j hj
      exact ⟨_, hsome j hj u hu⟩
theorem Filling.done {B : Nat} {w wr : World} {A : Option Addr} {n : Nat} {f : Nat → Value} (h : Filling B w wr A n f n) : OwnS B wr A ((List.range n).map f) := by
  obtain ⟨_, hr⟩ := h
  rcases hr with hr | ⟨g, ha, hB, hs, hf, hc, he⟩
  · left; subst hr; rfl
  · exact .inr ⟨g, ha, hB, hs, fun j hj => by
      have hj' : j < n := by simpa using hj
      rw [hc j hj']; simp [hj'], fun j hj => hf j (by simpa using hj)⟩

theorem OwnS.row {B : Nat} {w : World} {A : Option Addr} {l : List Value} (h : OwnS B w A l) : ∀ g, rowOf l.length A = some g → B ≤ g := by
  intro g hg
  unfold rowOf at hg
  rcases h with h | ⟨g', ha, hB, _⟩
  · subst h; simp at hg
  · subst ha
    split at hg
    · cases hg
    · simp at hg; omega
end Go.Proofs.YtennekieiioilaaGreat

namespace Go.Proofs.YtennekieiioilaaGreat
set_option linter.unusedVariables false
set_option linter.unusedSimpArgs false

/-- The power of the base with exponent i. -/
def pw (i : Nat) : Int := 1000000000 ^ i
theorem pw_zero : pw 0 = 1 := rfl
theorem pw_succ (i : Nat) : pw (i + 1) = pw i * 1000000000 := by unfold pw; rw [Int.pow_succ]
theorem pw_pos (i : Nat) : 0 < pw i := by unfold pw; exact Int.pow_pos (by decide)
theorem pw_ne (i : Nat) : pw i ≠ 0 := by have := pw_pos i; omega
theorem pw_add (i j : Nat) : pw (i + j) = pw i * pw j := by unfold pw; rw [Int.pow_add]
theorem le_mul_pos {a b : Int} (ha : 0 < a) (hb : 0 < b) : a ≤ a * b := by
  have := Int.mul_le_mul_of_nonneg_left (show 1 ≤ b by omega) (Int.le_of_lt ha)
  rw [Int.mul_one] at this
  exact this
theorem pw_le {i j : Nat} (h : i ≤ j) : pw i ≤ pw j := by
  obtain ⟨k, rfl⟩ := Nat.exists_eq_add_of_le h
  rw [pw_add]
  exact le_mul_pos (pw_pos i) (pw_pos k)

/-- Digit i of T in the base: also of a negative T (as if it had a row of the highest digits without end). -/
def dgt (T : Int) (i : Nat) : Int := T / pw i % 1000000000
theorem dgt_nonneg (T : Int) (i : Nat) : 0 ≤ dgt T i := Int.emod_nonneg _ (by decide)
theorem dgt_lt (T : Int) (i : Nat) : dgt T i < 1000000000 := Int.emod_lt_of_pos _ (by decide)
theorem div_succ (T : Int) (i : Nat) : T / pw (i + 1) = T / pw i / 1000000000 := by
  rw [pw_succ, Int.ediv_ediv_of_nonneg (Int.le_of_lt (pw_pos i))]
theorem div_split (T : Int) (i : Nat) : T / pw i = T / pw (i + 1) * 1000000000 + dgt T i := by
  rw [div_succ]
  unfold dgt
  have := Int.mul_ediv_add_emod (T / pw i) 1000000000
  omega
theorem mod_succ (T : Int) (i : Nat) : T % pw (i + 1) = T % pw i + dgt T i * pw i := by
  have h1 := Int.mul_ediv_add_emod T (pw (i + 1))
  have h2 := Int.mul_ediv_add_emod T (pw i)
  have h3 := div_split T i
  rw [h3, Int.mul_add] at h2
  rw [pw_succ] at h1 ⊢
  rw [Int.mul_comm (dgt T i)]
  have h4 : pw i * (T / pw (i + 1) * 1000000000) = pw i * 1000000000 * (T / (pw i * 1000000000)) := by
    rw [pw_succ, Int.mul_comm (T / _), Int.mul_assoc]
  rw [h4] at h2
  omega
theorem mod_zero (T : Int) : T % pw 0 = 0 := by rw [pw_zero]; exact Int.emod_one T
theorem div_zero (T : Int) : T / pw 0 = T := by rw [pw_zero]; exact Int.ediv_one T
theorem mod_nonneg (T : Int) (i : Nat) : 0 ≤ T % pw i := Int.emod_nonneg _ (pw_ne i)
theorem mod_lt (T : Int) (i : Nat) : T % pw i < pw i := Int.emod_lt_of_pos _ (pw_pos i)
theorem mod_self_of {T : Int} {i : Nat} (h0 : 0 ≤ T) (h : T < pw i) : T % pw i = T := Int.emod_eq_of_lt h0 h
theorem div_small {T : Int} {i : Nat} (h0 : 0 ≤ T) (h : T < pw i) : T / pw i = 0 := Int.ediv_eq_zero_of_lt h0 h
theorem dgt_small {T : Int} {n i : Nat} (h0 : 0 ≤ T) (h : T < pw n) (hi : n ≤ i) : dgt T i = 0 := by
  unfold dgt
  rw [div_small h0 (Int.lt_of_lt_of_le h (pw_le hi))]
  rfl
theorem dgt_shift (T : Int) (i j : Nat) : dgt (T / pw i) j = dgt T (i + j) := by
  unfold dgt
  rw [pw_add, Int.ediv_ediv_of_nonneg (Int.le_of_lt (pw_pos i))]
/-- Digits hang on the rest alone. -/
theorem dgt_congr {T U : Int} {n i : Nat} (h : T % pw n = U % pw n) (hi : i < n) : dgt T i = dgt U i := by
  have key : ∀ X : Int, dgt X i = dgt (X % pw n) i := by
    intro X
    obtain ⟨k, rfl⟩ := Nat.exists_eq_add_of_le (show i + 1 ≤ n by omega)
    have h1 := Int.mul_ediv_add_emod X (pw (i + 1 + k))
    unfold dgt
    conv => lhs; rw [← h1]
    have h2 : ∀ Y : Int, pw (i + 1 + k) * Y = (1000000000 * (pw k * Y)) * pw i := by
      intro Y
      rw [pw_add, pw_succ, Int.mul_assoc, Int.mul_assoc, Int.mul_comm (pw i)]
    rw [h2, Int.add_comm, Int.add_mul_ediv_right _ _ (pw_ne i), Int.add_mul_emod_self_left]
  rw [key T, key U, h]
theorem mod_of_dgt {T U : Int} : ∀ {n : Nat}, (∀ i, i < n → dgt T i = dgt U i) → T % pw n = U % pw n
  | 0, _ => by rw [mod_zero, mod_zero]
  | n + 1, h => by rw [mod_succ, mod_succ, mod_of_dgt (fun i hi => h i (by omega)), h n (by omega)]

/-- The lowest n digits. -/
def row (n : Nat) (T : Int) : List Int := (List.range n).map (dgt T)
theorem row_length (n : Nat) (T : Int) : (row n T).length = n := by simp [row]
theorem row_get {n i : Nat} (T : Int) (h : i < n) : (row n T)[i]? = some (dgt T i) := by simp [row, h]
theorem row_congr {n : Nat} {T U : Int} (h : T % pw n = U % pw n) : row n T = row n U := by
  apply List.map_congr_left
  intro i hi
  exact dgt_congr h (by simpa using hi)
theorem row_take {n m : Nat} (T : Int) (h : m ≤ n) : (row n T).take m = row m T := by
  unfold row
  rw [← List.map_take, List.take_range, Nat.min_eq_left h]
theorem row_cons (n : Nat) (T : Int) : row (n + 1) T = T % 1000000000 :: row n (T / 1000000000) := by
  unfold row
  rw [List.range_succ_eq_map, List.map_cons, List.map_map]
  congr 1
  · unfold dgt; rw [pw_zero, Int.ediv_one]
  · apply List.map_congr_left
    intro i _
    have := dgt_shift T 1 i
    rw [show pw 1 = 1000000000 from rfl] at this
    rw [this, Nat.add_comm]
    rfl
theorem row_inj {n : Nat} {T U : Int} (hT : 0 ≤ T) (hT' : T < pw n) (hU : 0 ≤ U) (hU' : U < pw n) (h : row n T = row n U) : T = U := by
  have : T % pw n = U % pw n := mod_of_dgt (fun i hi => by
    have h1 := row_get T hi
    have h2 := row_get U hi
    rw [h, h2] at h1
    injection h1 with h1
    exact h1.symm)
  rwa [mod_self_of hT hT', mod_self_of hU hU'] at this

/-- The number of digits. -/
def ln (v : Nat) : Nat := if h : v = 0 then 0 else ln (v / 1000000000) + 1
termination_by v
decreasing_by omega
theorem ln_zero : ln 0 = 0 := by rw [ln]; rfl
theorem ln_pos {v : Nat} (h : 0 < v) : ln v = ln (v / 1000000000) + 1 := by rw [ln, dif_neg (by omega)]
theorem ln_lt (v : Nat) : (v : Int) < pw (ln v) := by
  induction v using Nat.strongRecOn with
  | _ v ih =>
    by_cases h : 0 < v
    · have := ih (v / 1000000000) (by omega)
      rw [ln_pos h, pw_succ]
      omega
    · obtain rfl : v = 0 := by omega
      rw [ln_zero]
      decide
theorem ln_ge (v : Nat) (h : 0 < v) : pw (ln v - 1) ≤ v := by
  induction v using Nat.strongRecOn with
  | _ v ih =>
    rw [ln_pos h, Nat.add_sub_cancel]
    by_cases h1 : 0 < v / 1000000000
    · have h2 := ih (v / 1000000000) (by omega) h1
      rw [ln_pos h1, Nat.add_sub_cancel] at h2
      rw [ln_pos h1, pw_succ]
      omega
    · rw [show v / 1000000000 = 0 by omega, ln_zero]
      rw [pw_zero]
      omega
theorem ln_le_iff {v n : Nat} : ln v ≤ n ↔ (v : Int) < pw n := by
  constructor
  · intro h; exact Int.lt_of_lt_of_le (ln_lt v) (pw_le h)
  · intro h
    by_cases h0 : 0 < v
    · rcases Nat.lt_or_ge n (ln v) with h1 | h1
      · have h2 := ln_ge v h0
        have h3 := pw_le (show n ≤ ln v - 1 by omega)
        omega
      · exact h1
    · obtain rfl : v = 0 := by omega
      rw [ln_zero]; exact Nat.zero_le _
theorem ln_eq_zero {v : Nat} : ln v = 0 ↔ v = 0 := by
  constructor
  · intro h
    by_cases h0 : 0 < v
    · rw [ln_pos h0] at h; omega
    · omega
  · rintro rfl; exact ln_zero
theorem ln_mono {u v : Nat} (h : u ≤ v) : ln u ≤ ln v := ln_le_iff.2 (by have := ln_lt v; omega)
/-- The row has no digit above: one step of the loop that cuts zeros. -/
theorem trim_step {v n : Nat} (hn : 0 < n) (hv : ln v ≤ n) (h0 : dgt v (n - 1) = 0) : ln v ≤ n - 1 := by
  rw [ln_le_iff] at hv ⊢
  have h1 := div_split v (n - 1)
  rw [h0, Nat.sub_add_cancel hn, div_small (by omega) hv] at h1
  have h2 := Int.mul_ediv_add_emod (v : Int) (pw (n - 1))
  rw [h1] at h2
  have h3 := mod_lt v (n - 1)
  omega
theorem trim_stop {v n : Nat} (hn : 0 < n) (hv : ln v ≤ n) (h0 : dgt v (n - 1) ≠ 0) : ln v = n := by
  rcases Nat.lt_or_ge (ln v) n with h | h
  · exact absurd (dgt_small (n := ln v) (by omega) (ln_lt v) (by omega)) h0
  · omega
theorem top_ne {v : Nat} (h : 0 < v) : dgt v (ln v - 1) ≠ 0 := by
  have hl : 0 < ln v := by rw [ln_pos h]; omega
  intro e
  have := trim_step hl (Nat.le_refl _) e
  omega

/-- The digits of v, none of them a zero at the end. -/
def nd (v : Nat) : List Int := row (ln v) v
theorem nd_length (v : Nat) : (nd v).length = ln v := row_length _ _
theorem nd_zero : nd 0 = [] := by unfold nd; rw [ln_zero]; rfl
theorem nd_get {v i : Nat} (h : i < ln v) : (nd v)[i]? = some (dgt v i) := row_get _ h
theorem nd_inj {u v : Nat} (h : nd u = nd v) : u = v := by
  have hl : ln u = ln v := by rw [← nd_length, ← nd_length, h]
  have h1 : row (ln u) u = row (ln u) v := by
    show nd u = _
    rw [h, hl]
    rfl
  have := row_inj (n := ln u) (by omega) (ln_lt u) (by omega) (by rw [hl]; exact ln_lt v) h1
  omega

/-- Every element is a digit. -/
def Digs (l : List Int) : Prop := ∀ x ∈ l, 0 ≤ x ∧ x < 1000000000
/-- The value of a list of digits. -/
def val : List Int → Nat
  | [] => 0
  | x :: l => x.toNat + 1000000000 * val l
theorem row_val : ∀ (l : List Int), Digs l → row l.length (val l) = l ∧ (val l : Int) < pw l.length
  | [], _ => ⟨rfl, by decide⟩
  | x :: l, h => by
    obtain ⟨h1, h2⟩ := row_val l (fun y hy => h y (List.mem_cons_of_mem _ hy))
    have hx := h x List.mem_cons_self
    have hv : ((val (x :: l) : Nat) : Int) = x + 1000000000 * (val l : Int) := by
      show ((x.toNat + 1000000000 * val l : Nat) : Int) = _
      omega
    constructor
    · rw [List.length_cons, row_cons, hv]
      congr 1
      · omega
      · rw [show (x + 1000000000 * (val l : Int)) / 1000000000 = (val l : Int) by omega]
        exact h1
    · rw [hv, List.length_cons, pw_succ]
      omega
/-- What 'NatOk' asks. -/
def ok (l : List Int) : Bool := decide (l.length ≤ 60) && (l.all fun x => decide (0 ≤ x) && decide (x < 1000000000)) && (decide (l = []) || decide (l.getD (l.length - 1) 0 ≠ 0))
theorem ok_nd {l : List Int} (h : ok l = true) : ∃ v, l = nd v ∧ ln v ≤ 60 := by
  unfold ok at h
  simp only [Bool.and_eq_true, Bool.or_eq_true, decide_eq_true_eq, List.all_eq_true] at h
  obtain ⟨⟨h1, h2⟩, h3⟩ := h
  obtain ⟨h4, h5⟩ := row_val l h2
  have h6 : ln (val l) = l.length := by
    by_cases h0 : l = []
    · subst h0; exact ln_zero
    · have hl : 0 < l.length := List.length_pos_iff.2 h0
      refine trim_stop hl (ln_le_iff.2 h5) ?_
      have h7 := row_get (n := l.length) (val l) (show l.length - 1 < l.length by omega)
      rw [h4] at h7
      rcases h3 with h3 | h3
      · exact absurd h3 h0
      · rw [List.getD_eq_getElem?_getD, h7] at h3
        exact h3
  exact ⟨val l, by unfold nd; rw [h6, h4], by omega⟩
theorem nd_ok {v : Nat} (h : ln v ≤ 60) : ok (nd v) = true := by
  unfold ok
  simp only [Bool.and_eq_true, Bool.or_eq_true, decide_eq_true_eq, List.all_eq_true]
  refine ⟨⟨by rw [nd_length]; exact h, fun x hx => ?_⟩, ?_⟩
  · obtain ⟨i, _, rfl⟩ := List.mem_map.1 hx
    exact ⟨dgt_nonneg _ _, dgt_lt _ _⟩
  · by_cases h0 : 0 < v
    · right
      have hl : 0 < ln v := by rw [ln_pos h0]; omega
      rw [nd_length, List.getD_eq_getElem?_getD, nd_get (by omega)]
      exact top_ne h0
    · left
      obtain rfl : v = 0 := by omega
      exact nd_zero
theorem nd_ok_iff (v : Nat) : ok (nd v) = decide (ln v ≤ 60) := by
  by_cases h : ln v ≤ 60
  · rw [nd_ok h, decide_eq_true h]
  · rw [decide_eq_false h]
    unfold ok
    rw [nd_length, decide_eq_false h]
    rfl

/-- The answer of the operations: nothing if it would be too long. -/
def cap60 (v : Nat) : List Int := if ln v ≤ 60 then nd v else []

/-! Order. -/
def cmpN (a b : Nat) : Int := if a < b then -1 else if b < a then 1 else 0
theorem cmp_len_lt {a b : Nat} (h : ln a < ln b) : a < b := by
  rcases Nat.lt_or_ge a b with h1 | h1
  · exact h1
  · have := ln_mono h1
    omega
theorem cmp_at {a b : Nat} {i : Nat} (he : (a : Int) / pw (i + 1) = (b : Int) / pw (i + 1)) (hd : dgt a i < dgt b i) : a < b := by
  have h1 := div_split a i
  have h2 := div_split b i
  rcases Nat.lt_or_ge a b with h | h
  · exact h
  · have h3 : (b : Int) / pw i ≤ (a : Int) / pw i := Int.ediv_le_ediv (pw_pos i) (by omega)
    omega
theorem cmp_eq {a b : Nat} {i : Nat} (he : (a : Int) / pw (i + 1) = (b : Int) / pw (i + 1)) (hd : dgt a i = dgt b i) : (a : Int) / pw i = (b : Int) / pw i := by
  rw [div_split a i, div_split b i, he, hd]
theorem cmp_start {a b : Nat} (h : ln a = ln b) : (a : Int) / pw (ln a) = (b : Int) / pw (ln a) := by
  rw [div_small (by omega) (ln_lt a), div_small (by omega) (by rw [h]; exact ln_lt b)]
theorem cmp_end {a b : Nat} (he : (a : Int) / pw 0 = (b : Int) / pw 0) : a = b := by
  rw [div_zero, div_zero] at he; omega

/-! One pass over a row: 'v + f w' digit by digit. -/
/-- The carry ahead of digit i. -/
def car (v w f : Int) (i : Nat) : Int := (v % pw i + f * (w % pw i)) / pw i
theorem car_zero (v w f : Int) : car v w f 0 = 0 := by unfold car; rw [mod_zero, mod_zero, Int.mul_zero, pw_zero]; rfl
theorem pass_split (v w f : Int) (i : Nat) : (v % pw (i + 1) + f * (w % pw (i + 1))) / pw i = car v w f i + dgt v i + f * dgt w i := by
  rw [mod_succ, mod_succ, Int.mul_add, ← Int.mul_assoc]
  rw [show v % pw i + dgt v i * pw i + (f * (w % pw i) + f * dgt w i * pw i) = (v % pw i + f * (w % pw i)) + (dgt v i + f * dgt w i) * pw i by rw [Int.add_mul]; omega]
  rw [Int.add_mul_ediv_right _ _ (pw_ne i)]
  unfold car
  omega
theorem car_succ (v w f : Int) (i : Nat) : car v w f (i + 1) = (car v w f i + dgt v i + f * dgt w i) / 1000000000 := by
  rw [← pass_split]
  conv => lhs; unfold car
  rw [div_succ]
theorem mod_lin (v w f : Int) (n : Nat) : (v + f * w) % pw n = (v % pw n + f * (w % pw n)) % pw n := by
  rw [Int.add_emod, Int.mul_emod]
  rw [Int.add_emod (v % pw n) (f * (w % pw n)), Int.mul_emod f (w % pw n), Int.emod_emod, Int.emod_emod]
theorem dgt_pass (v w f : Int) (i : Nat) : dgt (v + f * w) i = (car v w f i + dgt v i + f * dgt w i) % 1000000000 := by
  rw [dgt_congr (mod_lin v w f (i + 1)) (Nat.lt_succ_self i)] 
  have : ∀ X : Int, dgt (X % pw (i + 1)) i = dgt X i := fun X => dgt_congr (n := i + 1) (by rw [Int.emod_emod]) (Nat.lt_succ_self i)
  rw [← pass_split]
  rfl
theorem car_bound {v w f : Int} (hf : -1000000000 ≤ f) (hf' : f ≤ 1000000000) : ∀ i : Nat, -1000000000 ≤ car v w f i ∧ car v w f i ≤ 1000000000
  | 0 => by rw [car_zero]; decide
  | i + 1 => by
    obtain ⟨h1, h2⟩ := car_bound (v := v) (w := w) hf hf' i
    have h3 := dgt_nonneg v i
    have h4 := dgt_lt v i
    have h5 := dgt_nonneg w i
    have h6 := dgt_lt w i
    have h7 : f * dgt w i ≤ 1000000000 * 999999999 := Int.le_trans (Int.mul_le_mul_of_nonneg_right hf' h5) (Int.mul_le_mul_of_nonneg_left (by omega) (by decide))
    have h8 : -(1000000000 * 999999999) ≤ f * dgt w i := by
      have h9 : (-f) * dgt w i ≤ 1000000000 * 999999999 := Int.le_trans (Int.mul_le_mul_of_nonneg_right (by omega) h5) (Int.mul_le_mul_of_nonneg_left (by omega) (by decide))
      rw [Int.neg_mul] at h9
      omega
    rw [car_succ]
    constructor <;> omega
theorem prod_bound {w f : Int} (hf : -1000000000 ≤ f) (hf' : f ≤ 1000000000) (i : Nat) : -999999999000000000 ≤ f * dgt w i ∧ f * dgt w i ≤ 999999999000000000 := by
  have h5 := dgt_nonneg w i
  have h6 := dgt_lt w i
  have h7 : f * dgt w i ≤ 1000000000 * 999999999 := Int.le_trans (Int.mul_le_mul_of_nonneg_right hf' h5) (Int.mul_le_mul_of_nonneg_left (by omega) (by decide))
  have h9 : (-f) * dgt w i ≤ 1000000000 * 999999999 := Int.le_trans (Int.mul_le_mul_of_nonneg_right (by omega) h5) (Int.mul_le_mul_of_nonneg_left (by omega) (by decide))
  rw [Int.neg_mul] at h9
  omega
theorem car_all {v w f : Int} {n : Nat} (h0 : 0 ≤ v) (hv : v < pw n) (h1 : 0 ≤ w) (hw : w < pw n) : car v w f n = (v + f * w) / pw n := by
  unfold car
  rw [mod_self_of h0 hv, mod_self_of h1 hw]
end Go.Proofs.YtennekieiioilaaGreat

namespace Go.Proofs.YtennekieiioilaaGreat
open Go.ChangeShapes Go.WideShapes Go.ChangeAt Go.RowKit
open Go.ChangeMaps (open_string shut_string)
set_option linter.unusedVariables false
set_option linter.unusedSimpArgs false

/-- The ints of a list, as values. -/
def vi (l : List Int) : List Value := l.map (Value.int .i64)
theorem vi_length (l : List Int) : (vi l).length = l.length := by simp [vi]
theorem vi_get {l : List Int} {k : Nat} (h : k < l.length) : (vi l)[k]? = some (.int .i64 l[k]) := by simp [vi, h]
theorem vi_get? {l : List Int} {k : Nat} {x : Int} (h : l[k]? = some x) : (vi l)[k]? = some (.int .i64 x) := by simp [vi, h]
theorem vi_append (l m : List Int) : vi (l ++ m) = vi l ++ vi m := by simp [vi]
theorem vi_take (l : List Int) (k : Nat) : vi (l.take k) = (vi l).take k := by simp [vi]
theorem vi_nil : vi [] = [] := rfl
/-- Every element is an int of the machine. -/
def Wd (l : List Int) : Prop := ∀ x ∈ l, -9223372036854775808 ≤ x ∧ x ≤ 9223372036854775807
theorem RdS.int {w : World} {A : Option Addr} {l : List Int} (h : RdS w A (vi l)) {k : Nat} {x : Int} (hx : l[k]? = some x) : ∃ b off, A = some ⟨b, off, none⟩ ∧ b < w.heap.size ∧ w.cell? ⟨b, off + k, none⟩ = some (.int .i64 x) := by
  have hk : k < l.length := by
    rcases Nat.lt_or_ge k l.length with h1 | h1
    · exact h1
    · rw [List.getElem?_eq_none h1] at hx; cases hx
  obtain ⟨b, off, ha, hb, hc⟩ := h.block (by rw [vi_length]; omega)
  exact ⟨b, off, ha, hb, by rw [hc k (by rw [vi_length]; exact hk), vi_get? hx]⟩
theorem RdS.int_at {w : World} {b off : Nat} {l : List Int} (h : RdS w (some ⟨b, off, none⟩) (vi l)) {k : Nat} {x : Int} (hx : l[k]? = some x) : w.cell? ⟨b, off + k, none⟩ = some (.int .i64 x) := by
  obtain ⟨b', off', ha, _, hc⟩ := h.int hx
  injection ha with e
  injection e with e1 e2
  subst e1; subst e2
  exact hc
theorem getElem_of? {l : List Int} {k : Nat} (h : k < l.length) : l[k]? = some l[k] := List.getElem?_eq_getElem h

/-- Block g holds just the ints L, and may be written. -/
def Blk (w : World) (g : Nat) (L : List Int) : Prop := w.heap[g]? = some (.cells (vi L).toArray 3 (0, 0))
theorem Blk.lt {w : World} {g : Nat} {L : List Int} (h : Blk w g L) : g < w.heap.size := (Array.getElem?_eq_some_iff.1 h).1
theorem Blk.cell {w : World} {g : Nat} {L : List Int} (h : Blk w g L) {k : Nat} {x : Int} (hx : L[k]? = some x) : w.cell? ⟨g, k, none⟩ = some (.int .i64 x) := by
  rw [cell_of_row w g k _ 3 (0, 0) h]
  simpa using vi_get? hx
theorem Blk.free {w : World} {g : Nat} {L : List Int} (h : Blk w g L) (k : Nat) : w.frozen? ⟨g, k, none⟩ = false := by
  have h' : w.heap[g]? = some (.cells (vi L).toArray 3 (0, 0)) := h
  unfold World.frozen?; rw [h']; simp
theorem Blk.set {w : World} {g : Nat} {L : List Int} (h : Blk w g L) (k : Nat) (x : Int) : Blk (w.setCell ⟨g, k, none⟩ (.int .i64 x)) g (L.set k x) := by
  have h' : w.heap[g]? = some (.cells (vi L).toArray 3 (0, 0)) := h
  show (w.setCell ⟨g, k, none⟩ (.int .i64 x)).heap[g]? = some (.cells (vi (L.set k x)).toArray 3 (0, 0))
  have e : (vi (L.set k x)).toArray = (vi L).toArray.setIfInBounds k (.int .i64 x) := by simp [vi, List.map_set]
  rw [e]
  simp [World.setCell, Array.getElem?_modify, h']
theorem Blk.below {w w' : World} {g B : Nat} {L : List Int} (h : Blk w g L) (hg : g < B) (hb : Below B w w') : Blk w' g L := by
  unfold Blk
  rw [hb.block g hg]
  exact h
theorem Blk.drew {w : World} {g n : Nat} {L : List Int} (h : Blk w g L) : Blk (w.drewN n) g L := h
theorem Blk.own {w : World} {g B : Nat} {L : List Int} (h : Blk w g L) (hB : B ≤ g) : OwnS B w (some ⟨g, 0, none⟩) (vi L) :=
  .inr ⟨g, rfl, hB, h.lt, fun j hj => by
    rw [vi_length] at hj
    rw [h.cell (getElem_of? hj), vi_get hj], fun j _ => h.free j⟩
/-- What make's law leaves. -/
theorem Blk.of_made {w : World} {base g n : Nat} {cs : List Value} (h : w.ownsRow base 3 1 (.slice (some ⟨g, 0, none⟩) n n) n cs) {L : List Int} (hL : cs = vi L) : Blk w g L := by
  obtain ⟨hl, hr⟩ := h
  rcases hr with ⟨hv, _⟩ | ⟨g', cap, cur, hv, hbg, hh, hnc, hm, hsz, htake⟩
  · cases hv
  · injection hv with e1 e2 e3
    injection e1 with e1
    injection e1 with e1
    subst e1; subst e3
    have : cur = (vi L).toArray := by
      rw [← hL, ← htake]
      have : cur.toList.length = n * 1 := by simpa using hsz
      rw [List.take_of_length_le (by omega)]
    show w.heap[g]? = _
    rw [hh, this]
theorem OwnS.other {B C : Nat} {w w0 w' : World} {A A' : Option Addr} {l l' : List Value} (h : OwnS B w A l) (hx : OwnS C w0 A' l') (hs : w0.heap.size ≤ B) (hg : w.grownBy w' (rowOf l'.length A')) : OwnS B w' A l := by
  rcases h with h | ⟨g, ha, hB, hsz, hc, hf⟩
  · exact .inl h
  · have hk : w'.heap[g]? = w.heap[g]? := hg.block g hsz (by
      unfold rowOf
      rcases hx with hx | ⟨g', ha', _, hs', _⟩
      · subst hx; simp
      · subst ha'
        split
        · simp
        · simp; omega)
    refine .inr ⟨g, ha, hB, Nat.lt_of_lt_of_le hsz hg.size, fun j hj => ?_, fun j hj => ?_⟩
    · rw [World.cell?_of_block (w := w) (a := ⟨g, j, none⟩) hk]; exact hc j hj
    · rw [World.frozen?_of_block (w := w) (a := ⟨g, j, none⟩) hk]; exact hf j hj
/-- What a row's writes leave of another block. -/
theorem RdS.grown {w w' : World} {g : Nat} {A : Option Addr} {l : List Value} (h : RdS w A l) (hA : ∀ b off, A = some ⟨b, off, none⟩ → b ≠ g) (hg : w.grownBy w' (some g)) : RdS w' A l := by
  rcases h with h | ⟨b, off, ha, hs, hc⟩
  · exact .inl h
  · have hk : w'.heap[b]? = w.heap[b]? := hg.block b hs (by intro q; injection q with q; exact hA b off ha q)
    refine .inr ⟨b, off, ha, Nat.lt_of_lt_of_le hs hg.size, fun j hj => ?_⟩
    rw [World.cell?_of_block (w := w) (a := ⟨b, off + j, none⟩) hk]; exact hc j hj
theorem grown_drewN {w w1 : World} {row : Option Nat} (h : w.grownBy w1 row) (n : Nat) : w.grownBy (w1.drewN n) row := ⟨h.os, h.tape, h.output, h.size, h.block⟩
theorem bt {a b c : World} (h1 : Below a.heap.size a b) (h2 : Below b.heap.size b c) : Below a.heap.size a c := h1.trans (h2.mono h1.size)
theorem grown_below {w w1 w2 : World} {row : Option Nat} (h : w.grownBy w1 row) (k : Below w1.heap.size w1 w2) : w.grownBy w2 row := grown_trans_below h k

/-- Row of L with the digits of T in places off .. off + i. -/
def lay (L : List Int) (off : Nat) (T : Int) (i : Nat) : List Int := L.take off ++ (row i T ++ L.drop (off + i))
theorem lay_zero (L : List Int) (off : Nat) (T : Int) : lay L off T 0 = L := by simp [lay, row]
theorem lay_length {L : List Int} {off i : Nat} (T : Int) (h : off + i ≤ L.length) : (lay L off T i).length = L.length := by
  simp [lay, row_length]; omega
theorem lay_set {L : List Int} {off i : Nat} (T : Int) (h : off + i < L.length) : (lay L off T i).set (off + i) (dgt T i) = lay L off T (i + 1) := by
  have hl : (L.take off ++ row i T).length = off + i := by simp [row_length]; omega
  unfold lay
  rw [← List.append_assoc, List.set_append_right _ _ (by omega), hl, Nat.sub_self]
  rw [List.drop_eq_getElem_cons h, List.set_cons_zero]
  have : row (i + 1) T = row i T ++ [dgt T i] := by simp [row, List.range_succ]
  rw [this, show off + (i + 1) = off + i + 1 by omega]
  simp
theorem lay_at {L : List Int} {off i : Nat} (T : Int) (h : off + i < L.length) : (lay L off T i)[off + i]? = L[off + i]? := by
  have hl : (L.take off ++ row i T).length = off + i := by simp [row_length]; omega
  unfold lay
  rw [← List.append_assoc, List.getElem?_append_right (by omega), hl, Nat.sub_self, List.getElem?_drop, Nat.add_zero]
theorem lay_all {n : Nat} (L : List Int) (T : Int) (h : L.length = n) : lay L 0 T n = row n T := by
  simp [lay, ← h]
theorem lay_in {L : List Int} {off n j : Nat} (T : Int) (h : off + n ≤ L.length) (hj : j < n) : (lay L off T n)[off + j]? = some (dgt T j) := by
  have hl : (L.take off).length = off := by simp; omega
  unfold lay
  rw [List.getElem?_append_right (by omega), hl, Nat.add_sub_cancel_left, List.getElem?_append_left (by rw [row_length]; exact hj), row_get T hj]
theorem lay_out {L : List Int} {off n j : Nat} (T : Int) (h : off + n ≤ L.length) (hj : j < off ∨ off + n ≤ j) : (lay L off T n)[j]? = L[j]? := by
  have hl : (L.take off).length = off := by simp; omega
  unfold lay
  rcases hj with hj | hj
  · rw [List.getElem?_append_left (by omega), List.getElem?_take, if_pos hj]
  · rw [List.getElem?_append_right (by omega), hl, List.getElem?_append_right (by rw [row_length]; omega), row_length, List.getElem?_drop]
    congr 1
    omega
theorem set_set (L : List Int) (k : Nat) (x y : Int) : (L.set k x).set k y = L.set k y := List.set_set ..
end Go.Proofs.YtennekieiioilaaGreat

namespace Go.Proofs.YtennekieiioilaaGreat
open Go.ChangeShapes Go.WideShapes Go.ChangeAt Go.RowKit
open Go.ChangeMaps (open_string shut_string)
set_option linter.unusedVariables false
set_option linter.unusedSimpArgs false
set_option maxRecDepth 4000

theorem ret_bool' {a b : Bool} (h : a = b) : Ending.returned (.bool a) = .returned (.bool b) := by rw [h]
theorem int_info : (Tryz.prog.info? 3).map (fun i => (i.zero, i.size, i.bytes)) = some (some (.int .i64 0), 1, 8) := by kernel_rfl
/-- A slice value, whatever its capacity, that reads as l in a row of the call's own. -/
def MadeI (B : Nat) (L : List Int) (w : World) (e : Ending) (w' : World) : Prop :=
  ∃ A c, e = .returned (.slice A L.length c) ∧ L.length ≤ c ∧ OwnS B w' A (vi L) ∧ Below w.heap.size w w'
/-- The first k elements agree. -/
def AgI (l m : List Int) (k : Nat) : Prop := ∀ j, j < k → l[j]? = m[j]?
theorem AgI.zero (l m : List Int) : AgI l m 0 := fun _ h => absurd h (by omega)
theorem AgI.succ {l m : List Int} {k : Nat} (h : AgI l m k) (h1 : l[k]? = m[k]?) : AgI l m (k + 1) := fun j hj => by
  rcases Nat.lt_or_ge j k with h2 | h2
  · exact h j h2
  · obtain rfl : j = k := by omega
    exact h1
theorem AgI.all {l m : List Int} (h : AgI l m l.length) (hl : l.length = m.length) : l = m := by
  apply List.ext_getElem?
  intro j
  rcases Nat.lt_or_ge j l.length with h2 | h2
  · exact h j h2
  · rw [List.getElem?_eq_none h2, List.getElem?_eq_none (by omega)]

set_option maxHeartbeats 800000 in
theorem eqIntS_any (l m : List Int) (A D : Option Addr) (n n' c d : Nat) (w : World) (hl : l.length = n) (hm : m.length = n') (hn : n ≤ 4611686018427387904) (hn' : n' ≤ 4611686018427387904)
    (hA : RdS w A (vi l)) (hD : RdS w D (vi m)) :
    Calls Tryz.prog 33 #[.slice A n c, .slice D n' d] w fun e w' => e = .returned (.bool (decide (l = m))) ∧ Below w.heap.size w w' := by
  have HL := Lib.hid hl
  have HM := Lib.hid hm
  clear hl hm
  by_cases hne : n = n'
  · subst hne
    go_enter Tryz.func33, Tryz.ntmps33
    go_wp2
    go_loopw [5] (fun i w' => ∃ k : Nat, k ≤ n ∧ i = .int .i64 k ∧ AgI l m k ∧ Below w.heap.size w w') (fun i _ => n - (intOf i).toNat)
    case atStart => exact ⟨0, Nat.zero_le _, rfl, AgI.zero _ _, Below.refl _ _⟩
    case round =>
      obtain ⟨k, hk, rfl, hag0, hb⟩ := hrel
      have hag := Lib.hid hag0
      clear hag0
      by_cases hlt : k < n
      · have hs0 : l[k]? = some (l[k]'(by rw [HL.out]; exact hlt)) := List.getElem?_eq_getElem _
        have ht0 : m[k]? = some (m[k]'(by rw [HM.out]; exact hlt)) := List.getElem?_eq_getElem _
        obtain ⟨b1, o1, rfl, hb1, e1⟩ := (hA.below hb).int hs0
        obtain ⟨b2, o2, rfl, hb2, e2⟩ := (hD.below hb).int ht0
        have hi0 : (0 : Int) ≤ (k : Int) := by omega
        have hi1 : (k : Int) < (n : Int) := by omega
        generalize l[k]'(by rw [HL.out]; exact hlt) = s at e1 hs0
        generalize m[k]'(by rw [HM.out]; exact hlt) = t at e2 ht0
        have Hs := Lib.hid hs0
        have Ht := Lib.hid ht0
        clear hs0 ht0
        by_cases hst : s = t
        · subst hst
          go_wp2
          go_quiet (fail)
          go_wp2
          go_roundw
          case rel => exact ⟨k + 1, by omega, by go_num, hag.out.succ (by rw [Hs.out, Ht.out]), below_drewN hb _⟩
          case measure => simp [intOf]; omega
        · have q : (s != t) = true := by rw [bne_iff_ne]; exact hst
          have Hf : Hid (decide (l = m) = false) := by
            refine Lib.hid (decide_eq_false (fun h => hst ?_))
            have h1 := Hs.out
            rw [h, Ht.out] at h1
            injection h1 with h1
            exact h1.symm
          clear hst
          go_wp2
          go_quiet (fail)
          go_wp2
          go_ret
          exact ⟨ret_bool' (by rw [Hf.out]), below_drewN hb _⟩
      · obtain rfl : k = n := by omega
        have Hf : Hid (decide (l = m) = true) := by
          refine Lib.hid (decide_eq_true (AgI.all ?_ (by rw [HL.out, HM.out])))
          rw [HL.out]; exact hag.out
        go_wp2
        go_ret
        exact ⟨ret_bool' (by rw [Hf.out]), hb⟩
  · have Hf : Hid (decide (l = m) = false) := Lib.hid (decide_eq_false (fun h => hne (by rw [← HL.out, ← HM.out, h])))
    have q : ((n : Int) != (n' : Int)) = true := by rw [bne_iff_ne]; omega
    go_enter Tryz.func33, Tryz.ntmps33
    go_wp2
    go_ret
    exact ⟨ret_bool' (by rw [Hf.out]), Below.refl _ _⟩
theorem eqIntS_same (l : List Int) (A D : Option Addr) (n c d : Nat) (w : World) (hl : l.length = n) (hn : n ≤ 4611686018427387904) (hA : RdS w A (vi l)) (hD : RdS w D (vi l)) :
    Calls Tryz.prog 33 #[.slice A n c, .slice D n d] w fun e w' => e = .returned (.bool true) ∧ Below w.heap.size w w' :=
  (eqIntS_any l l A D _ _ c d w hl hl hn hn hA hD).mono fun e w' ⟨he, hb⟩ => ⟨by rw [he, decide_eq_true rfl], hb⟩

/-- The marks k, k + 1, .. of n places. -/
def marks (k : Int) (n : Nat) : List Int := (List.range n).map (fun (i : Nat) => k + (i : Int))
theorem marks_length (k : Int) (n : Nat) : (marks k n).length = n := by simp [marks]
theorem marks_get {k : Int} {n j : Nat} (h : j < n) : (marks k n)[j]? = some (k + (j : Int)) := by simp [marks, h]
theorem vi_marks (k : Int) (n : Nat) : vi (marks k n) = (List.range n).map (fun (j : Nat) => Value.int .i64 (k + (j : Int))) := by simp [vi, marks]

set_option maxHeartbeats 800000 in
theorem markIntS_any (B : Nat) (l : List Value) (A : Option Addr) (n c : Nat) (k : Int) (w : World) (hl : l.length = n) (hk : 0 < k) (hn : k + n ≤ 4611686018427387904) (hA : OwnS B w A l) :
    Calls Tryz.prog 37 #[.slice A n c, .int .i64 k] w fun e w' => e = .returned (.int .i64 (k + (n : Int))) ∧ OwnS B w' A (vi (marks k n)) ∧ w.grownBy w' (rowOf n A) := by
  have hst := Filling.start hA hl (fun (j : Nat) => .int .i64 (k + (j : Int)))
  clear hl hA
  go_enter Tryz.func37, Tryz.ntmps37
  go_wp2
  go_loopw [1, 5] (fun q i w' => ∃ j : Nat, j ≤ n ∧ i = .int .i64 (j : Int) ∧ q = .int .i64 (k + (j : Int)) ∧ Filling B w w' A n (fun (j : Nat) => .int .i64 (k + (j : Int))) j) (fun _ i _ => n - (intOf i).toNat)
  case atStart => exact ⟨0, Nat.zero_le _, rfl, by go_num, hst⟩
  case round =>
    obtain ⟨j, hj, rfl, rfl, hfl⟩ := hrel
    clear hst
    by_cases hlt : j < n
    · obtain ⟨g, u, rfl, hg, hcu, hfr⟩ := hfl.at_ hlt
      have h1 : (0 : Int) < k + (j : Int) := by omega
      have h2 : k + (j : Int) ≤ 4611686018427387904 := by omega
      have hi0 : (0 : Int) ≤ (j : Int) := by omega
      have hi1 : (j : Int) < (n : Int) := by omega
      go_wp2
      go_roundw
      case rel => exact ⟨j + 1, by omega, by go_num, by go_num, hfl.step hlt rfl⟩
      case measure => simp [intOf]; omega
    · obtain rfl : j = n := by omega
      go_wp2
      go_ret
      exact ⟨rfl, by rw [vi_marks]; exact hfl.done, hfl.1⟩

set_option maxHeartbeats 800000 in
theorem heldIntS_any (A : Option Addr) (n c : Nat) (k : Int) (w : World) (hk : 0 < k) (hn : k + n ≤ 4611686018427387904) (hA : RdS w A (vi (marks k n))) :
    Calls Tryz.prog 39 #[.slice A n c, .int .i64 k] w fun e w' => e = .returned (.int .i64 (k + (n : Int))) ∧ Below w.heap.size w w' := by
  go_enter Tryz.func39, Tryz.ntmps39
  go_wp2
  go_loopw [1, 5] (fun q i w' => ∃ j : Nat, j ≤ n ∧ i = .int .i64 (j : Int) ∧ q = .int .i64 (k + (j : Int)) ∧ Below w.heap.size w w') (fun _ i _ => n - (intOf i).toNat)
  case atStart => exact ⟨0, Nat.zero_le _, rfl, by go_num, Below.refl _ _⟩
  case round =>
    obtain ⟨j, hj, rfl, rfl, hb⟩ := hrel
    by_cases hlt : j < n
    · obtain ⟨b1, o1, rfl, hbl, e1⟩ := (hA.below hb).int (marks_get hlt)
      clear hA
      have h1 : (0 : Int) < k + (j : Int) := by omega
      have h2 : k + (j : Int) ≤ 4611686018427387904 := by omega
      have hi0 : (0 : Int) ≤ (j : Int) := by omega
      have hi1 : (j : Int) < (n : Int) := by omega
      go_wp2
      go_roundw
      case rel => exact ⟨j + 1, by omega, by go_num, by go_num, hb⟩
      case measure => simp [intOf]; omega
    · obtain rfl : j = n := by omega
      go_wp2
      go_ret
      exact ⟨rfl, hb⟩

/-- One more than the number of places: what the harness counts up to. -/
def mk1 (n : Nat) : Int := 1 + (n : Int)
theorem mk1_pos (n : Nat) : 0 < mk1 n := by unfold mk1; omega
theorem mk1_le (n : Nat) (h : n ≤ 1048576) : mk1 n ≤ 1048577 := by unfold mk1; omega
theorem markIntS_one (B : Nat) (l : List Int) (A : Option Addr) (n c : Nat) (w : World) (hl : l.length = n) (hn : n ≤ 1048576) (hA : OwnS B w A (vi l)) :
    Calls Tryz.prog 37 #[.slice A n c, .int .i64 1] w fun e w' => e = .returned (.int .i64 (mk1 n)) ∧ OwnS B w' A (vi (marks 1 n)) ∧ w.grownBy w' (rowOf n A) :=
  (markIntS_any B (vi l) A n c 1 w (by rw [vi_length, hl]) (by omega) (by omega) hA).mono fun e w' ⟨he, h1, h2⟩ => ⟨by rw [he]; rfl, h1, h2⟩
theorem heldIntS_one (A : Option Addr) (n c : Nat) (w : World) (hn : n ≤ 1048576) (hA : RdS w A (vi (marks 1 n))) :
    Calls Tryz.prog 39 #[.slice A n c, .int .i64 1] w fun e w' => e = .returned (.int .i64 (mk1 n)) ∧ Below w.heap.size w w' :=
  (heldIntS_any A n c 1 w (by omega) (by omega) hA).mono fun e w' ⟨he, h1⟩ => ⟨by rw [he]; rfl, h1⟩

theorem dgt_zero (i : Nat) : dgt 0 i = 0 := by unfold dgt; rw [Int.zero_ediv]; rfl
theorem zeros (n : Nat) : (madeCells (Value.int .i64 0).cells (n * 1)).toList = vi (row n 0) := by
  have h1 : ∀ i : Nat, (Value.int IntKind.i64 0).cells[i % (Value.int IntKind.i64 0).cells.size]! = Value.int .i64 0 := by
    intro i
    show (#[Value.int IntKind.i64 0])[i % 1]! = _
    rw [Nat.mod_one]
    rfl
  apply List.ext_getElem?
  intro j
  rw [Nat.mul_one]
  simp only [madeCells, vi, row, Array.toList_map, Array.toList_range, List.map_map, List.getElem?_map]
  congr 1
  funext i
  simp only [Function.comp_apply, dgt_zero]
  exact h1 i

set_option maxHeartbeats 400000 in
theorem toIntS_any (l : List Int) (A : Option Addr) (n c : Nat) (w : World) (hl : l.length = n) (hn : n ≤ 1048576) (hA : RdS w A (vi l)) :
    Calls Tryz.prog 67 #[.slice A n c] w fun e w' => ∃ g, e = .returned (.slice (some ⟨g, 0, none⟩) n n) ∧ OwnS w.heap.size w' (some ⟨g, 0, none⟩) (vi l) ∧ Below w.heap.size w w' := by
  obtain ⟨i0, hi, hz0, hz1, hz2⟩ := info_parts int_info
  have HL := Lib.hid hl
  clear hl
  go_enter Tryz.func67, Tryz.ntmps67
  go_wp2_with (refine wpList_make_full _ rfl (.tmp 6) (.tmp 6) 26 rfl w.heap.size 3 i0 _ 1 Tryz.underlying26 hi hz0 hz1 .i64 .i64 n n n rfl rfl rfl rfl (by rw [hz2]; omega) (by simp only [maxLen]; omega) (Nat.le_refl _) ?_; intro w1 hown hg)
  have hb1 : Below w.heap.size w w1 := below_of_grown hg (Nat.le_refl _) (fun g h => by cases h)
  have hln : (madeCells (Value.int .i64 0).cells (n * 1)).toList.length = n := by rw [Array.length_toList, size_madeCells, Nat.mul_one]
  have hst := Filling.start (OwnS.of_own hown) hln (fun j => .int .i64 (l.getD j 0))
  clear hown hg hln
  go_wp2
  go_loopw [4] (fun i w' => ∃ j : Nat, j ≤ n ∧ i = .int .i64 (j : Int) ∧ Filling w.heap.size w1 w' (some ⟨w.heap.size, 0, none⟩) n (fun j => .int .i64 (l.getD j 0)) j) (fun i _ => n - (intOf i).toNat)
  case atStart => exact ⟨0, Nat.zero_le _, rfl, hst⟩
  case round =>
    obtain ⟨j, hj, rfl, hfl⟩ := hrel
    clear hst
    have hbw : Below w.heap.size w wr := hb1.trans (below_of_grown hfl.1 hb1.size (fun g hg => by
      unfold rowOf at hg
      split at hg
      · cases hg
      · simp at hg; omega))
    by_cases hlt : j < n
    · obtain ⟨g, u, hgg, hg, hcu, hfr⟩ := hfl.at_ hlt
      obtain rfl : g = w.heap.size := by injection hgg with e; injection e with e1 _ _; exact e1.symm
      clear hgg
      have hjl : j < l.length := by rw [HL.out]; exact hlt
      obtain ⟨b1, o1, rfl, hb1', e1⟩ := (hA.below hbw).int (getElem_of? hjl)
      have hx : Hid (Value.int .i64 l[j] = Value.int .i64 (l.getD j 0)) := Lib.hid (by rw [List.getD_eq_getElem?_getD, List.getElem?_eq_getElem hjl]; rfl)
      generalize hsx : l[j] = s at e1 hx
      clear hsx hjl
      have hi0 : (0 : Int) ≤ (j : Int) := by omega
      have hi1 : (j : Int) < (n : Int) := by omega
      go_wp2
      go_roundw
      case rel => exact ⟨j + 1, by omega, by go_num, hfl.step hlt hx.out⟩
      case measure => simp [intOf]; omega
    · obtain rfl : j = n := by omega
      go_wp2
      go_ret
      refine ⟨_, rfl, ?_, hbw⟩
      have := hfl.done
      have e : (List.range j).map (fun i => Value.int .i64 (l.getD i 0)) = vi l := by
        apply List.ext_getElem?
        intro i
        rw [List.getElem?_map, ← HL.out]
        rcases Nat.lt_or_ge i l.length with h | h
        · rw [vi_get h, List.getElem?_range h]
          simp [List.getD_eq_getElem?_getD, List.getElem?_eq_getElem h]
        · rw [List.getElem?_eq_none (l := List.range l.length) (by simpa using h), List.getElem?_eq_none (by rw [vi_length]; exact h)]
          rfl
      rw [e] at this
      exact this
end Go.Proofs.YtennekieiioilaaGreat

namespace Go.Proofs.YtennekieiioilaaGreat
open Go.ChangeShapes Go.WideShapes Go.ChangeAt Go.RowKit
open Go.ChangeMaps (open_string shut_string)
set_option linter.unusedVariables false
set_option linter.unusedSimpArgs false
set_option maxRecDepth 4000

/-- The first k elements are digits. -/
def DigTI (l : List Int) (k : Nat) : Prop := ∀ j x, j < k → l[j]? = some x → 0 ≤ x ∧ x < 1000000000
theorem DigTI.zero (l : List Int) : DigTI l 0 := fun _ _ h => absurd h (by omega)
theorem DigTI.succ {l : List Int} {k : Nat} {x : Int} (h : DigTI l k) (hx : l[k]? = some x) (h0 : 0 ≤ x) (h1 : x < 1000000000) : DigTI l (k + 1) := fun j y hj hy => by
  rcases Nat.lt_or_ge j k with h2 | h2
  · exact h j y h2 hy
  · obtain rfl : j = k := by omega
    rw [hx] at hy
    injection hy with hy
    omega
theorem ok_false_of {l : List Int} {k : Nat} {x : Int} (hx : l[k]? = some x) (h : ¬ (0 ≤ x ∧ x < 1000000000)) : ok l = false := by
  rw [← Bool.not_eq_true]
  intro e
  unfold ok at e
  simp only [Bool.and_eq_true, Bool.or_eq_true, decide_eq_true_eq, List.all_eq_true] at e
  exact h (e.1.2 x (List.mem_of_getElem? hx))
theorem ok_false_long {l : List Int} (h : 60 < l.length) : ok l = false := by
  rw [← Bool.not_eq_true]
  intro e
  unfold ok at e
  simp only [Bool.and_eq_true, Bool.or_eq_true, decide_eq_true_eq, List.all_eq_true] at e
  omega
theorem ok_nil : ok [] = true := rfl
theorem ok_end {l : List Int} {x : Int} (hl : l.length ≤ 60) (hd : DigTI l l.length) (hx : l[l.length - 1]? = some x) : ok l = decide (x ≠ 0) := by
  have hne : l ≠ [] := by rintro rfl; simp at hx
  have ha : (l.all fun x => decide (0 ≤ x) && decide (x < 1000000000)) = true := by
    rw [List.all_eq_true]
    intro y hy
    obtain ⟨j, hj, hjy⟩ := List.getElem_of_mem hy
    have := hd j y hj (by rw [List.getElem?_eq_getElem hj, hjy])
    simpa using this
  unfold ok
  rw [ha, decide_eq_true hl, decide_eq_false hne, List.getD_eq_getElem?_getD, hx]
  simp

set_option maxHeartbeats 800000 in
theorem impl_ok (l : List Int) (A : Option Addr) (n c : Nat) (w : World) (hl : l.length = n) (hn : n ≤ 9223372036854775807) (hA : RdS w A (vi l)) :
    Calls Tryz.prog 88 #[.slice A n c] w fun e w' => e = .returned (.bool (ok l)) ∧ w = w' := by
  have HL := Lib.hid hl
  clear hl
  by_cases hlong : 60 < n
  · have Hf : Hid (ok l = false) := Lib.hid (ok_false_long (by rw [HL.out]; exact hlong))
    go_enter Tryz.func88, Tryz.ntmps88
    go_wp2
    go_ret
    exact ⟨ret_bool' Hf.out.symm, rfl⟩
  · have hn60 : n ≤ 60 := by omega
    go_enter Tryz.func88, Tryz.ntmps88
    go_wp2
    go_loop [10] (fun i => ∃ k : Nat, k ≤ n ∧ i = .int .i64 k ∧ DigTI l k) (fun i => n - (intOf i).toNat)
    case atStart => exact ⟨0, Nat.zero_le _, rfl, DigTI.zero _⟩
    case round =>
      obtain ⟨k, hk, rfl, hdt0⟩ := hrel
      have hdt := Lib.hid hdt0
      clear hdt0
      by_cases hlt : k < n
      · have hs0 : l[k]? = some (l[k]'(by rw [HL.out]; exact hlt)) := List.getElem?_eq_getElem _
        obtain ⟨b1, o1, rfl, hb1, e1⟩ := hA.int hs0
        have hi0 : (0 : Int) ≤ (k : Int) := by omega
        have hi1 : (k : Int) < (n : Int) := by omega
        generalize l[k]'(by rw [HL.out]; exact hlt) = x at e1 hs0
        have Hs := Lib.hid hs0
        clear hs0
        by_cases h0 : x < 0
        · have Hf : Hid (ok l = false) := Lib.hid (ok_false_of Hs.out (by omega))
          go_wp2
          go_ret
          exact ⟨ret_bool' Hf.out.symm, rfl⟩
        · have h0' : 0 ≤ x := by omega
          by_cases h1 : x < 1000000000
          · go_wp2
            go_round
            case rel => exact ⟨k + 1, by omega, by go_num, hdt.out.succ Hs.out h0' h1⟩
            case measure => simp [intOf]; omega
          · have Hf : Hid (ok l = false) := Lib.hid (ok_false_of Hs.out (by omega))
            have h1' : 1000000000 ≤ x := by omega
            go_wp2
            go_ret
            exact ⟨ret_bool' Hf.out.symm, rfl⟩
      · obtain rfl : k = n := by omega
        by_cases hz : k = 0
        · subst hz
          have Hf : Hid (ok l = true) := Lib.hid (by rw [List.eq_nil_of_length_eq_zero HL.out]; rfl)
          go_wp2
          go_ret
          exact ⟨ret_bool' Hf.out.symm, rfl⟩
        · have hs0 : l[k - 1]? = some (l[k - 1]'(by rw [HL.out]; omega)) := List.getElem?_eq_getElem _
          obtain ⟨b1, o1, rfl, hb1, e1⟩ := hA.int hs0
          generalize l[k - 1]'(by rw [HL.out]; omega) = x at e1 hs0
          have Hf : Hid (ok l = decide (x ≠ 0)) := Lib.hid (ok_end (by rw [HL.out]; omega) (by rw [HL.out]; exact hdt.out) (by rw [HL.out]; exact hs0))
          clear hs0
          have hk1 : ((k : Int) - 1) = ((k - 1 : Nat) : Int) := by omega
          have hp : 0 < k := by omega
          have hkz : ((k : Int) == 0) = false := by rw [beq_eq_false_iff_ne]; omega
          by_cases hx : x = 0
          · subst hx
            go_wp2
            go_ret
            exact ⟨ret_bool' (by rw [Hf.out]; rfl), rfl⟩
          · go_wp2
            go_ret
            exact ⟨ret_bool' (by rw [Hf.out]; simp [hx]), rfl⟩

theorem in_any (x lo hi : Int) (w : World) : Calls Tryz.prog 26 #[.int .i64 x, .int .i64 lo, .int .i64 hi] w fun e w' => e = .returned (.bool (decide (lo ≤ x ∧ x ≤ hi))) ∧ w = w' := by
  by_cases h1 : lo ≤ x
  · by_cases h2 : x ≤ hi
    · have hf : Hid (decide (lo ≤ x ∧ x ≤ hi) = true) := Lib.hid (decide_eq_true ⟨h1, h2⟩)
      go_enter Tryz.func26, Tryz.ntmps26
      go_wp2
      go_ret
      exact ⟨ret_bool' hf.out.symm, rfl⟩
    · go_enter Tryz.func26, Tryz.ntmps26
      go_wp2
      go_ret
      exact ⟨ret_bool' (by simp [h1, h2]), rfl⟩
  · go_enter Tryz.func26, Tryz.ntmps26
    go_wp2
    go_ret
    exact ⟨ret_bool' (by simp; omega), rfl⟩

set_option maxHeartbeats 800000 in
theorem spec_ok (l : List Int) (A : Option Addr) (n c : Nat) (w : World) (hl : l.length = n) (hn : n ≤ 9223372036854775807) (hA : RdS w A (vi l)) :
    Calls Tryz.prog 102 #[.slice A n c] w fun e w' => e = .returned (.bool (ok l)) ∧ w = w' := by
  have HL := Lib.hid hl
  clear hl
  go_enter Tryz.func102, Tryz.ntmps102
  go_wp2
  go_loop [7] (fun i => ∃ k : Nat, k ≤ n ∧ i = .int .i64 k ∧ DigTI l k) (fun i => n - (intOf i).toNat)
  case atStart => exact ⟨0, Nat.zero_le _, rfl, DigTI.zero _⟩
  case round =>
    obtain ⟨k, hk, rfl, hdt0⟩ := hrel
    have hdt := Lib.hid hdt0
    clear hdt0
    by_cases hlt : k < n
    · have hs0 : l[k]? = some (l[k]'(by rw [HL.out]; exact hlt)) := List.getElem?_eq_getElem _
      obtain ⟨b1, o1, rfl, hb1, e1⟩ := hA.int hs0
      have hi0 : (0 : Int) ≤ (k : Int) := by omega
      have hi1 : (k : Int) < (n : Int) := by omega
      generalize l[k]'(by rw [HL.out]; exact hlt) = x at e1 hs0
      have Hs := Lib.hid hs0
      clear hs0
      by_cases h0 : 0 ≤ x ∧ x ≤ 999999999
      · have Hd := Lib.hid (hdt.out.succ Hs.out h0.1 (by omega))
        have hin := in_any x 0 999999999 w
        rw [decide_eq_true h0] at hin
        clear h0 hdt
        go_wp2_with fail
        refine hin.mono ?_
        rintro e w1 ⟨rfl, rfl⟩
        go_wp2
        go_round
        case rel => exact ⟨k + 1, by omega, by go_num, Hd.out⟩
        case measure => simp [intOf]; omega
      · have Hf : Hid (ok l = false) := Lib.hid (ok_false_of Hs.out (by omega))
        have hin := in_any x 0 999999999 w
        rw [decide_eq_false h0] at hin
        clear h0
        go_wp2_with fail
        refine hin.mono ?_
        rintro e w1 ⟨rfl, rfl⟩
        go_wp2
        go_ret
        exact ⟨ret_bool' Hf.out.symm, rfl⟩
    · obtain rfl : k = n := by omega
      by_cases hlong : 60 < k
      · have Hf : Hid (ok l = false) := Lib.hid (ok_false_long (by rw [HL.out]; exact hlong))
        go_wp2
        go_ret
        exact ⟨ret_bool' Hf.out.symm, rfl⟩
      · have hn60 : k ≤ 60 := by omega
        by_cases hz : k = 0
        · subst hz
          have Hf : Hid (ok l = true) := Lib.hid (by rw [List.eq_nil_of_length_eq_zero HL.out]; rfl)
          go_wp2
          go_ret
          exact ⟨ret_bool' Hf.out.symm, rfl⟩
        · have hs0 : l[k - 1]? = some (l[k - 1]'(by rw [HL.out]; omega)) := List.getElem?_eq_getElem _
          obtain ⟨b1, o1, rfl, hb1, e1⟩ := hA.int hs0
          generalize l[k - 1]'(by rw [HL.out]; omega) = x at e1 hs0
          have Hf : Hid (ok l = decide (x ≠ 0)) := Lib.hid (ok_end (by rw [HL.out]; omega) (by rw [HL.out]; exact hdt.out) (by rw [HL.out]; exact hs0))
          clear hs0
          have hk1 : ((k : Int) - 1) = ((k - 1 : Nat) : Int) := by omega
          have hp : 0 < k := by omega
          have hkz : ((k : Int) == 0) = false := by rw [beq_eq_false_iff_ne]; omega
          by_cases hx : x = 0
          · subst hx
            go_wp2
            go_ret
            exact ⟨ret_bool' (by rw [Hf.out]; rfl), rfl⟩
          · go_wp2
            go_ret
            exact ⟨ret_bool' (by rw [Hf.out]; simp [hx]), rfl⟩

theorem are_any (l m : List Int) (A D : Option Addr) (n c n' d : Nat) (w : World) (hl : l.length = n) (hm : m.length = n') (hn : n ≤ 9223372036854775807) (hn' : n' ≤ 9223372036854775807) (hA : RdS w A (vi l)) (hD : RdS w D (vi m)) :
    Calls Tryz.prog 116 #[.slice A n c, .slice D n' d] w fun e w' => e = .returned (.bool (ok l && ok m)) ∧ w = w' := by
  have H1 := Lib.hid (impl_ok l A n c w hl hn hA)
  have H2 := Lib.hid (impl_ok m D n' d w hm hn' hD)
  clear hl hm
  generalize ok l = p at H1
  generalize ok m = q at H2
  cases p
  · go_enter Tryz.func116, Tryz.ntmps116
    go_wp2_with fail
    refine H1.out.mono ?_
    rintro e w1 ⟨rfl, rfl⟩
    go_wp2
    go_ret
    exact ⟨rfl, rfl⟩
  · go_enter Tryz.func116, Tryz.ntmps116
    go_wp2_with fail
    refine H1.out.mono ?_
    rintro e w1 ⟨rfl, rfl⟩
    go_wp2_with fail
    refine H2.out.mono ?_
    rintro e w1 ⟨rfl, rfl⟩
    go_wp2
    go_ret
    exact ⟨rfl, rfl⟩
end Go.Proofs.YtennekieiioilaaGreat

namespace Go.Proofs.YtennekieiioilaaGreat
open Go.ChangeShapes Go.WideShapes Go.ChangeAt Go.RowKit
open Go.ChangeMaps (open_string shut_string)
set_option linter.unusedVariables false
set_option linter.unusedSimpArgs false

theorem laidOut : laidOutB Tryz.prog = true := by kernel_rfl
theorem cellsInt : Tryz.prog.cellsOf 3 = 1 := by kernel_rfl

/-- A slice of ints that came in, read. -/
theorem opened {H : Type} {enc : TypeId × Value → H} {W : World} {a0 : Option Addr} {len cap fuel : Nat} {d : DataW H} {p : List MemPlace}
    (hf : DataW.trod enc Tryz.prog W 0 (fun _ => true) true fuel 26 (Value.slice a0 len cap).cells.toList = some (d, p)) :
    ∃ l : List Int, l.length = len ∧ len ≤ 9223372036854775807 ∧ RdS W a0 (vi l) := by
  rcases open_ints Tryz.underlying26 Tryz.underlying3 cellsInt hf with ⟨hcs, hx⟩ | ⟨a, len', cap', zs, hcs, _, hl, hm, hz, hx, hcell, hws⟩
  · simp [Value.cells] at hcs
    obtain ⟨rfl, rfl, rfl⟩ := hcs
    exact ⟨[], rfl, by omega, .inl rfl⟩
  · simp [Value.cells] at hcs
    obtain ⟨rfl, rfl, rfl⟩ := hcs
    simp only [if_true] at hz
    simp only [maxLen] at hm
    have hlen : (zs.take len).length = len := by rw [List.length_take]; omega
    refine ⟨zs.take len, hlen, by omega, ?_⟩
    by_cases hl0 : len = 0
    · left; subst hl0; rfl
    · obtain ⟨b, off, spot⟩ := a
      have hspot : spot = none := by simpa [Addr.add] using World.cell?_spot (hcell 0 (by omega))
      subst hspot
      have hbW : b < W.heap.size := World.block_lt_of_cell? W _ (hcell 0 (by omega))
      refine .inr ⟨b, off, rfl, hbW, fun j hj => ?_⟩
      rw [vi_length, hlen] at hj
      rw [← add_plain, hcell j (by omega), vi_get (by rw [hlen]; exact hj)]
      simp [List.getD_eq_getElem?_getD, List.getElem?_eq_getElem (show j < zs.length by omega)]
end Go.Proofs.YtennekieiioilaaGreat

namespace Go.Proofs.YtennekieiioilaaGreat
open Go.ChangeShapes Go.WideShapes Go.ChangeAt Go.RowKit
open Go.ChangeMaps (open_string shut_string)
set_option linter.unusedVariables false
set_option linter.unusedSimpArgs false
set_option maxRecDepth 4000

theorem append_int {ops : Array Oper} {rest : List Oper} {o : Oper} {a : Act} {Q : Exit → Act → World → Prop} (hgd : o.guard = none) (f x : Operand)
    (ho : o.op = .call { callee := .builtin .append, args := #[f, x], argTypes := #[26, 26] })
    (B n : Nat) (v : Value) (xs : List Int) (t : Int) (w : World) (hf : a.eval f = v) (hx : a.eval x = .slice (some ⟨w.heap.size, 0, none⟩) 1 1)
    (hown : w.ownsRow B 3 1 v n (vi xs)) (hn : n ≤ 1099511627776) (hB : B ≤ w.heap.size)
    (h : ∀ v' w', w'.ownsRow B 3 1 v' (n + 1) (vi (xs ++ [t])) → Below B w w' → w.heap.size ≤ w'.heap.size → wpList Tryz.prog ops Q rest (a.put o.dst v') w') :
    wpList Tryz.prog ops Q (o :: rest) a (w.alloc (.cells #[.int .i64 t] 3)) := by
  obtain ⟨i0, hi, hz0, hz1, hz2⟩ := info_parts int_info
  refine wpList_append_own (w.alloc (.cells #[.int .i64 t] 3)) hgd f x 26 ho B 3 i0 _ 1 8 Tryz.underlying26 hi hz0 hz1 hz2 rfl (by decide) v n (vi xs) hf (hown.alloc _) ⟨w.heap.size, 0, none⟩ 1 1 [.int .i64 t] hx rfl ?_ ?_ (by simp only [maxLen]; omega) (by omega) (by simp; omega) ?_
  · intro j u hu
    have hj : j = 0 := by
      have := (List.getElem?_eq_some_iff.1 hu).1
      simpa using this
    subst hj
    simp at hu
    subst hu
    exact World.cell?_alloc_new _ _ _ _
  · simp [Value.oneCell']
  · intro v' w' h1 h2 _
    refine h v' w' (by rw [vi_append]; exact h1) ?_ (by have := h2.size; simp at this; omega)
    refine ((Below.refl B w).alloc hB _).grown h2 (by simp; omega) (fun g hg => ?_)
    rcases hown.2 with ⟨rfl, _⟩ | ⟨g', cap, cur, rfl, hbg, _⟩
    · simp [Value.ownBlock] at hg
    · simp [Value.ownBlock] at hg
      omega

theorem owns_below {w w' : World} {B n : Nat} {e : TypeId} {v : Value} {xs : List Value} (h : w.ownsRow B e 1 v n xs) (hb : Below w.heap.size w w') : w'.ownsRow B e 1 v n xs :=
  ⟨h.1, h.2.imp id (fun ⟨g, cap, cur, hv, hB, hh, r⟩ => ⟨g, cap, cur, hv, hB, by rw [hb.block g (Array.getElem?_eq_some_iff.1 hh).1]; exact hh, r⟩)⟩
theorem made_own {B n : Nat} {w w' : World} {v : Value} {L : List Int} (h : w'.ownsRow B 3 1 v n (vi L)) (hb : Below w.heap.size w w') : MadeI B L w (.returned v) w' := by
  obtain ⟨A, c, rfl, hc, _, hl⟩ := own_len h
  rw [vi_length] at hl
  subst hl
  exact ⟨A, c, rfl, hc, OwnS.of_own h, hb⟩
theorem row_succ (k : Nat) (T : Int) : row (k + 1) T = row k T ++ [dgt T k] := by simp [row, List.range_succ]
theorem ln_stop {N k : Nat} (h : (N : Int) / pw k = 0) (hk : k ≤ ln N) : k = ln N := by
  have h1 := Int.mul_ediv_add_emod (N : Int) (pw k)
  have h2 := mod_lt (N : Int) k
  rw [h, Int.mul_zero] at h1
  have : ln N ≤ k := ln_le_iff.2 (by omega)
  omega
theorem ln_more {N k : Nat} (h : 0 < (N : Int) / pw k) : k < ln N := by
  rcases Nat.lt_or_ge k (ln N) with h1 | h1
  · exact h1
  · have := ln_le_iff.1 h1
    rw [div_small (by omega) this] at h
    omega
theorem ln_small (N : Nat) (h : N ≤ 9223372036854775807) : ln N ≤ 3 := by
  rw [ln_le_iff]
  have : pw 3 = 1000000000000000000000000000 := by decide
  omega

end Go.Proofs.YtennekieiioilaaGreat

namespace Go.Proofs.YtennekieiioilaaGreat
open Go.ChangeShapes Go.WideShapes Go.ChangeAt Go.RowKit
open Go.ChangeMaps (open_string shut_string)
set_option linter.unusedVariables false
set_option linter.unusedSimpArgs false
set_option maxRecDepth 4000

/-- The harness' functions at a list whose length stays closed. -/
theorem eq_at (L : List Int) (h : L.length ≤ 1048576) : Hid (∀ A D c d W, RdS W A (vi L) → RdS W D (vi L) → Calls Tryz.prog 33 #[.slice A L.length c, .slice D L.length d] W fun e w' => e = .returned (.bool true) ∧ Below W.heap.size W w') :=
  Lib.hid (fun A D c d W h1 h2 => eqIntS_same L A D _ c d W rfl (by omega) h1 h2)
theorem mark_at (L : List Int) (h : L.length ≤ 1048576) : Hid (∀ B A c W, OwnS B W A (vi L) → Calls Tryz.prog 37 #[.slice A L.length c, .int .i64 1] W fun e w' => e = .returned (.int .i64 (mk1 L.length)) ∧ OwnS B w' A (vi (marks 1 L.length)) ∧ W.grownBy w' (rowOf L.length A)) :=
  Lib.hid (fun B A c W h1 => markIntS_one B L A _ c W rfl h h1)
theorem held_at (n : Nat) (h : n ≤ 1048576) : Hid (∀ A c W, RdS W A (vi (marks 1 n)) → Calls Tryz.prog 39 #[.slice A n c, .int .i64 1] W fun e w' => e = .returned (.int .i64 (mk1 n)) ∧ Below W.heap.size W w') :=
  Lib.hid (fun A c W h1 => heldIntS_one A _ c W h h1)
theorem row_at {B : Nat} {W : World} {A : Option Addr} {L : List Int} (h : OwnS B W A (vi L)) : ∀ g, rowOf L.length A = some g → B ≤ g := by
  have := h.row
  rwa [vi_length] at this

end Go.Proofs.YtennekieiioilaaGreat

namespace Go.Proofs.YtennekieiioilaaGreat
open Go.ChangeShapes Go.WideShapes Go.ChangeAt Go.RowKit
open Go.ChangeMaps (open_string shut_string)
set_option linter.unusedVariables false
set_option linter.unusedSimpArgs false
set_option maxRecDepth 4000

set_option maxHeartbeats 400000 in
theorem trim_any (B n c T : Nat) (A : Option Addr) (w : World) (ho : OwnS B w A (vi (row n T))) (hT : ln T ≤ n) (hc : n ≤ c) (hn : n ≤ 1048576) :
    Calls Tryz.prog 135 #[.slice A n c] w (MadeI B (nd T) w) := by
  by_cases h0 : n = 0
  · subst h0
    have hz : nd T = [] := by
      have : ln T = 0 := by omega
      unfold nd; rw [this]; rfl
    rw [hz]
    clear ho
    cases A with
    | none =>
      go_enter Tryz.func135, Tryz.ntmps135
      go_wp2
      go_loop [3] (fun i => i = .int .i64 0) (fun i => 0)
      case atStart => exact rfl
      case round =>
        obtain rfl := hrel
        go_wp2
        go_ret
        exact ⟨_, _, rfl, Nat.zero_le _, .inl rfl, Below.refl _ _⟩
    | some ad =>
      go_enter Tryz.func135, Tryz.ntmps135
      go_wp2
      go_loop [3] (fun i => i = .int .i64 0) (fun i => 0)
      case atStart => exact rfl
      case round =>
        obtain rfl := hrel
        go_wp2
        go_ret
        exact ⟨_, _, rfl, Nat.zero_le _, .inl rfl, Below.refl _ _⟩
  · obtain ⟨g, rfl, hBg, hgw, hcell, hfr⟩ := ho.block (by rw [vi_length, row_length]; omega)
    have hrd := ho.rd
    have HO := Lib.hid ho
    clear ho hcell hfr
    go_enter Tryz.func135, Tryz.ntmps135
    go_wp2
    go_loop [3] (fun i => ∃ k : Nat, k ≤ n ∧ ln T ≤ k ∧ i = .int .i64 (k : Int)) (fun i => (intOf i).toNat)
    case atStart => exact ⟨n, Nat.le_refl _, hT, rfl⟩
    case round =>
      obtain ⟨k, hk, hTk, rfl⟩ := hrel
      by_cases hz : 0 < k ∧ dgt T (k - 1) = 0
      · have hc1 := hrd.int_at (row_get (n := n) (i := k - 1) T (by omega))
        rw [Nat.zero_add] at hc1
        have h2 := trim_step hz.1 hTk hz.2
        have hp := hz.1
        rw [hz.2] at hc1
        have hk1 : ((k : Int) - 1) = ((k - 1 : Nat) : Int) := by omega
        have hk0 : (0 : Int) ≤ (k : Int) - 1 := by omega
        have hk2 : (k : Int) - 1 < (n : Int) := by omega
        have hkt : ((k : Int) - 1).toNat = k - 1 := by omega
        clear hz
        go_wp2
        go_round
        case rel => exact ⟨k - 1, by omega, h2, by go_num⟩
        case measure => simp [intOf]; omega
      · have hkT : Hid (ln T = k) := by
          refine Lib.hid ?_
          by_cases h0 : 0 < k
          · exact trim_stop h0 hTk (fun e => hz ⟨h0, e⟩)
          · omega
        have fin : MadeI B (nd T) w (.returned (.slice (some ⟨g, 0, none⟩) k c)) w := by
          refine ⟨some ⟨g, 0, none⟩, c, by rw [nd_length, hkT.out], by rw [nd_length, hkT.out]; omega, ?_, Below.refl _ _⟩
          have h1 := HO.out.take k
          rw [← vi_take, row_take T hk] at h1
          unfold nd
          rw [hkT.out]
          exact h1
        by_cases h0 : 0 < k
        · have hc1 := hrd.int_at (row_get (n := n) (i := k - 1) T (by omega))
          rw [Nat.zero_add] at hc1
          have hne : dgt T (k - 1) ≠ 0 := fun e => hz ⟨h0, e⟩
          have hk1 : ((k : Int) - 1) = ((k - 1 : Nat) : Int) := by omega
          clear hz
          generalize dgt T (k - 1) = x at hc1 hne
          have q : (x == 0) = false := by rw [beq_eq_false_iff_ne]; exact hne
          go_wp2
          go_ret
          exact fin
        · obtain rfl : k = 0 := by omega
          go_wp2
          go_ret
          exact fin

end Go.Proofs.YtennekieiioilaaGreat

namespace Go.Proofs.YtennekieiioilaaGreat
open Go.ChangeShapes Go.WideShapes Go.ChangeAt Go.RowKit
open Go.ChangeMaps (open_string shut_string)
set_option linter.unusedVariables false
set_option linter.unusedSimpArgs false

theorem ret_int' {a b : Int} (h : a = b) : Ending.returned (.int .i64 a) = .returned (.int .i64 b) := by rw [h]
def cmpI (x y : Int) : Int := if x < y then -1 else if y < x then 1 else 0
theorem cmpI_lt {x y : Int} (h : x < y) : cmpI x y = -1 := if_pos h
theorem cmpI_gt {x y : Int} (h : y < x) : cmpI x y = 1 := by unfold cmpI; rw [if_neg (by omega), if_pos h]
theorem cmpI_eq {x y : Int} (h : x = y) : cmpI x y = 0 := by unfold cmpI; rw [if_neg (by omega), if_neg (by omega)]
theorem cmpN_lt {a b : Nat} (h : a < b) : cmpN a b = -1 := if_pos h
theorem cmpN_gt {a b : Nat} (h : b < a) : cmpN a b = 1 := by unfold cmpN; rw [if_neg (by omega), if_pos h]
theorem cmpN_eq {a b : Nat} (h : a = b) : cmpN a b = 0 := by unfold cmpN; rw [if_neg (by omega), if_neg (by omega)]
theorem cmpN_range (a b : Nat) : -1 ≤ cmpN a b ∧ cmpN a b ≤ 1 := by
  unfold cmpN
  split
  · omega
  · split <;> omega

theorem isNaN_any (x : Int) (w : World) : Calls Tryz.prog 109 #[.int .i64 x] w fun e w' => e = .returned (.bool false) ∧ w = w' := by
  have q : (x != x) = false := by simp
  go_enter Tryz.func109, Tryz.ntmps109
  go_wp2
  go_ret
  exact ⟨rfl, rfl⟩

theorem compare_any (x y : Int) (w : World) : Calls Tryz.prog 136 #[.int .i64 x, .int .i64 y] w fun e w' => e = .returned (.int .i64 (cmpI x y)) ∧ w = w' := by
  have h1 := Lib.hid (isNaN_any x w)
  have h2 := Lib.hid (isNaN_any y w)
  rcases Int.lt_trichotomy x y with h | h | h
  · have hc := Lib.hid (cmpI_lt h)
    go_enter Tryz.func136, Tryz.ntmps136
    go_wp2_with fail
    refine h1.out.mono ?_
    rintro e w1 ⟨rfl, rfl⟩
    go_wp2_with fail
    refine h2.out.mono ?_
    rintro e w1 ⟨rfl, rfl⟩
    go_wp2
    go_ret
    exact ⟨ret_int' hc.out.symm, rfl⟩
  · subst h
    have hc := Lib.hid (cmpI_eq (x := x) rfl)
    go_enter Tryz.func136, Tryz.ntmps136
    go_wp2_with fail
    refine h1.out.mono ?_
    rintro e w1 ⟨rfl, rfl⟩
    go_wp2_with fail
    refine h2.out.mono ?_
    rintro e w1 ⟨rfl, rfl⟩
    go_wp2
    go_ret
    exact ⟨ret_int' hc.out.symm, rfl⟩
  · have hc := Lib.hid (cmpI_gt h)
    go_enter Tryz.func136, Tryz.ntmps136
    go_wp2_with fail
    refine h1.out.mono ?_
    rintro e w1 ⟨rfl, rfl⟩
    go_wp2_with fail
    refine h2.out.mono ?_
    rintro e w1 ⟨rfl, rfl⟩
    go_wp2
    go_ret
    exact ⟨ret_int' hc.out.symm, rfl⟩

theorem compare_b (x y : Int) (w : World) : Calls Tryz.prog 136 #[.int .i64 x, .int .i64 y] w fun e w' => e = .returned (.int .i64 (cmpI x y)) ∧ Below w.heap.size w w' :=
  (compare_any x y w).mono fun e w' ⟨h1, h2⟩ => ⟨h1, by subst h2; exact Below.refl _ _⟩
theorem held_two {wr W w1 : World} {a b : Addr} {u v : Value} (ha : a.block < wr.heap.size) (hb0 : b.block < wr.heap.size) (h1 : W.cell? a = some u) (h2 : W.cell? b = some v) (h3 : Below wr.heap.size wr W) (hb : Below W.heap.size W w1) : w1.cell? a = some u ∧ w1.cell? b = some v ∧ Below wr.heap.size wr w1 :=
  ⟨by rw [hb.cell (p := a) (Nat.lt_of_lt_of_le ha h3.size)]; exact h1, by rw [hb.cell (p := b) (Nat.lt_of_lt_of_le hb0 h3.size)]; exact h2, h3.trans (hb.mono h3.size)⟩

set_option maxHeartbeats 800000 in
theorem impl_cmp (a b : Nat) (A D : Option Addr) (n c n' d : Nat) (w : World) (hn : ln a = n) (hn' : ln b = n') (h60 : n ≤ 1048576) (h60' : n' ≤ 1048576) (hA : RdS w A (vi (nd a))) (hD : RdS w D (vi (nd b))) :
    Calls Tryz.prog 117 #[.slice A n c, .slice D n' d] w fun e w' => e = .returned (.int .i64 (cmpN a b)) ∧ Below w.heap.size w w' := by
  by_cases hne : n = n'
  · subst hne
    have hst := cmp_start (a := a) (b := b) (by omega)
    rw [hn] at hst
    have HN := Lib.hid hn
    have HN' := Lib.hid hn'
    clear hn hn'
    go_enter Tryz.func117, Tryz.ntmps117
    go_wp2
    go_loopw [5] (fun i w' => ∃ (k : Nat) (x : Int), k ≤ n ∧ i = .int .i64 x ∧ x = (k : Int) - 1 ∧ (a : Int) / pw k = (b : Int) / pw k ∧ Below w.heap.size w w') (fun i _ => (intOf i + 1).toNat)
    case atStart => exact ⟨n, _, Nat.le_refl _, rfl, rfl, hst, Below.refl _ _⟩
    case round =>
      clear hst
      obtain ⟨k, x, hk, rfl, hx, he0, hb⟩ := hrel
      have he := Lib.hid he0
      clear he0
      rcases k with _ | j
      · obtain rfl : x = -1 := by omega
        clear hx
        have hc := Lib.hid (cmpN_eq (cmp_end he.out))
        go_wp2
        go_ret
        exact ⟨ret_int' hc.out.symm, hb⟩
      · obtain rfl : x = (j : Int) := by omega
        clear hx
        have hlt : j < n := by omega
        obtain ⟨b1, o1, rfl, hb1, e1⟩ := (hA.below hb).int (nd_get (v := a) (i := j) (by rw [HN.out]; exact hlt))
        obtain ⟨b2, o2, rfl, hb2, e2⟩ := (hD.below hb).int (nd_get (v := b) (i := j) (by rw [HN'.out]; exact hlt))
        have hi0 : (0 : Int) ≤ (j : Int) := by omega
        have hi1 : (j : Int) < (n : Int) := by omega
        by_cases hq : dgt a j = dgt b j
        · have he' := Lib.hid (cmp_eq he.out hq)
          rw [← hq] at e2
          clear hq
          generalize dgt (a : Int) j = s at e1 e2
          go_wp2
          go_quiet (fail)
          go_wp2
          go_roundw
          case rel => exact ⟨j, _, by omega, rfl, rfl, he'.out, below_drewN hb _⟩
          case measure => simp [intOf]
        · have hc : Hid (cmpI (dgt a j) (dgt b j) = cmpN a b) := by
            rcases Int.lt_or_lt_of_ne hq with h | h
            · exact Lib.hid (by rw [cmpI_lt h, cmpN_lt (cmp_at he.out h)])
            · exact Lib.hid (by rw [cmpI_gt h, cmpN_gt (cmp_at he.out.symm h)])
          have q : (dgt a j != dgt b j) = true := by rw [bne_iff_ne]; exact hq
          clear hq he
          generalize dgt (a : Int) j = s at e1 hc q
          generalize dgt (b : Int) j = t at e2 hc q
          go_wp2
          go_quiet (fail)
          have e1' : (World.drewN wr nq).cell? ⟨b1, o1 + j, none⟩ = some (.int .i64 s) := e1
          have e2' : (World.drewN wr nq).cell? ⟨b2, o2 + j, none⟩ = some (.int .i64 t) := e2
          have hbl1 : b1 < (World.drewN wr nq).heap.size := hb1
          have hbl2 : b2 < (World.drewN wr nq).heap.size := hb2
          have hb' : Below w.heap.size w (World.drewN wr nq) := below_drewN hb _
          clear e1 e2 hb1 hb2 hb
          generalize World.drewN wr nq = W1 at e1' e2' hbl1 hbl2 hb'
          go_wp2_with fail
          go_region_held3 (fun w' => w'.cell? ⟨b1, o1 + j, none⟩ = some (.int .i64 s) ∧ w'.cell? ⟨b2, o2 + j, none⟩ = some (.int .i64 t) ∧ Below W1.heap.size W1 w')
            (first | (exact ⟨e1', e2', (Below.refl _ _).drew⟩) | (go_split_ands; exact held_two hbl1 hbl2 (by assumption) (by assumption) (by assumption) hbc))
            ((go_at_call 136; refine (compare_b s t _).mono ?_; rintro e w1 ⟨rfl, hbc⟩))
          have hbw : Below w.heap.size w w1 := hb'.trans ((‹_ ∧ _ ∧ Below W1.heap.size W1 w1›).2.2.mono hb'.size)
          go_wp2
          go_ret
          exact ⟨ret_int' hc.out, hbw⟩
  · have hc : Hid (cmpI (n : Int) (n' : Int) = cmpN a b) := by
      rcases Nat.lt_or_gt_of_ne hne with h | h
      · exact Lib.hid (by rw [cmpI_lt (by omega), cmpN_lt (cmp_len_lt (by omega))])
      · exact Lib.hid (by rw [cmpI_gt (by omega), cmpN_gt (cmp_len_lt (by omega))])
    have q : ((n : Int) != (n' : Int)) = true := by rw [bne_iff_ne]; omega
    have hk := Lib.hid (compare_any n n' w)
    clear hn hn'
    go_enter Tryz.func117, Tryz.ntmps117
    go_wp2_with fail
    refine hk.out.mono ?_
    rintro e w1 ⟨rfl, rfl⟩
    go_wp2
    go_ret
    exact ⟨ret_int' hc.out, Below.refl _ _⟩

set_option maxHeartbeats 800000 in
theorem spec_cmp (a b : Nat) (A D : Option Addr) (n c n' d : Nat) (w : World) (hn : ln a = n) (hn' : ln b = n') (h60 : n ≤ 1048576) (h60' : n' ≤ 1048576) (hA : RdS w A (vi (nd a))) (hD : RdS w D (vi (nd b))) :
    Calls Tryz.prog 133 #[.slice A n c, .slice D n' d] w fun e w' => e = .returned (.int .i64 (cmpN a b)) ∧ Below w.heap.size w w' := by
  by_cases hne : n = n'
  · subst hne
    have hst := cmp_start (a := a) (b := b) (by omega)
    rw [hn] at hst
    have HN := Lib.hid hn
    have HN' := Lib.hid hn'
    clear hn hn'
    go_enter Tryz.func133, Tryz.ntmps133
    go_wp2
    go_loopw [5] (fun i w' => ∃ (k : Nat) (x : Int), k ≤ n ∧ i = .int .i64 x ∧ x = (k : Int) - 1 ∧ (a : Int) / pw k = (b : Int) / pw k ∧ Below w.heap.size w w') (fun i _ => (intOf i + 1).toNat)
    case atStart => exact ⟨n, _, Nat.le_refl _, rfl, rfl, hst, Below.refl _ _⟩
    case round =>
      clear hst
      obtain ⟨k, x, hk, rfl, hx, he0, hb⟩ := hrel
      have he := Lib.hid he0
      clear he0
      rcases k with _ | j
      · obtain rfl : x = -1 := by omega
        clear hx
        have hc := Lib.hid (cmpN_eq (cmp_end he.out))
        go_wp2
        go_ret
        exact ⟨ret_int' hc.out.symm, hb⟩
      · obtain rfl : x = (j : Int) := by omega
        clear hx
        have hlt : j < n := by omega
        obtain ⟨b1, o1, rfl, hb1, e1⟩ := (hA.below hb).int (nd_get (v := a) (i := j) (by rw [HN.out]; exact hlt))
        obtain ⟨b2, o2, rfl, hb2, e2⟩ := (hD.below hb).int (nd_get (v := b) (i := j) (by rw [HN'.out]; exact hlt))
        have hi0 : (0 : Int) ≤ (j : Int) := by omega
        have hi1 : (j : Int) < (n : Int) := by omega
        have hcase : Hid ((dgt a j = dgt b j → (a : Int) / pw j = (b : Int) / pw j) ∧ (dgt a j < dgt b j → cmpN a b = -1) ∧ (dgt b j < dgt a j → cmpN a b = 1)) :=
          Lib.hid ⟨fun h => cmp_eq he.out h, fun h => cmpN_lt (cmp_at he.out h), fun h => cmpN_gt (cmp_at he.out.symm h)⟩
        clear he
        generalize dgt (a : Int) j = s at e1 hcase
        generalize dgt (b : Int) j = t at e2 hcase
        by_cases hst : s < t
        · have hc := Lib.hid (hcase.out.2.1 hst)
          go_wp2
          go_quiet (fail)
          go_wp2
          go_ret
          exact ⟨ret_int' hc.out.symm, below_drewN hb _⟩
        · go_wp2
          go_quiet (fail)
          have e1' : (World.drewN wr nq).cell? ⟨b1, o1 + j, none⟩ = some (.int .i64 s) := e1
          have e2' : (World.drewN wr nq).cell? ⟨b2, o2 + j, none⟩ = some (.int .i64 t) := e2
          have hbl1 : b1 < (World.drewN wr nq).heap.size := hb1
          have hbl2 : b2 < (World.drewN wr nq).heap.size := hb2
          have hb' : Below w.heap.size w (World.drewN wr nq) := below_drewN hb _
          clear e1 e2 hb1 hb2 hb
          generalize World.drewN wr nq = W1 at e1' e2' hbl1 hbl2 hb'
          by_cases hgt : t < s
          · have hc := Lib.hid (hcase.out.2.2 hgt)
            go_wp2
            go_quiet (fail)
            go_wp2
            go_ret
            exact ⟨ret_int' hc.out.symm, below_drewN hb' _⟩
          · obtain rfl : s = t := by omega
            have he' := Lib.hid (hcase.out.1 rfl)
            go_wp2
            go_quiet (fail)
            go_wp2
            go_roundw
            case rel => exact ⟨j, _, by omega, rfl, rfl, he'.out, below_drewN hb' _⟩
            case measure => simp [intOf]
  · have q : ((n : Int) != (n' : Int)) = true := by rw [bne_iff_ne]; omega
    rcases Nat.lt_or_gt_of_ne hne with h | h
    · have hc : Hid (cmpN a b = -1) := Lib.hid (cmpN_lt (cmp_len_lt (by omega)))
      have h' : (n : Int) < (n' : Int) := by omega
      clear hn hn'
      go_enter Tryz.func133, Tryz.ntmps133
      go_wp2
      go_ret
      exact ⟨ret_int' hc.out.symm, Below.refl _ _⟩
    · have hc : Hid (cmpN a b = 1) := Lib.hid (cmpN_gt (cmp_len_lt (by omega)))
      have h' : ¬ (n : Int) < (n' : Int) := by omega
      clear hn hn'
      go_enter Tryz.func133, Tryz.ntmps133
      go_wp2
      go_ret
      exact ⟨ret_int' hc.out.symm, Below.refl _ _⟩

/-- The answer of 'NatCmp'. -/
def cmpL (l m : List Int) : Int := if ok l && ok m then cmpN (val l) (val m) else 0
theorem val_nd (v : Nat) : val (nd v) = v := by
  have h : Digs (nd v) := fun x hx => by
    obtain ⟨i, _, rfl⟩ := List.mem_map.1 hx
    exact ⟨dgt_nonneg _ _, dgt_lt _ _⟩
  obtain ⟨h1, h2⟩ := row_val _ h
  rw [nd_length] at h1 h2
  have h3 := row_inj (n := ln v) (by omega) h2 (by omega) (ln_lt v) h1
  omega

theorem to_at (l : List Int) (A : Option Addr) (n c : Nat) (hl : l.length = n) (hn : n ≤ 1048576) : Hid (∀ W, RdS W A (vi l) → Calls Tryz.prog 67 #[.slice A n c] W fun e w' => ∃ g, e = .returned (.slice (some ⟨g, 0, none⟩) n n) ∧ OwnS W.heap.size w' (some ⟨g, 0, none⟩) (vi l) ∧ Below W.heap.size W w') := Lib.hid (fun W h => toIntS_any l A n c W hl hn h)

end Go.Proofs.YtennekieiioilaaGreat

namespace Go.Proofs.YtennekieiioilaaGreat
open Go.ChangeShapes Go.WideShapes Go.ChangeAt Go.RowKit
open Go.ChangeMaps (open_string shut_string)
set_option linter.unusedVariables false
set_option linter.unusedSimpArgs false

/-- Go's division and remainder, mended for a negative number. -/
theorem quo_rem (s : Int) : (0 ≤ s.tmod 1000000000 → s.tmod 1000000000 = s % 1000000000 ∧ s.tdiv 1000000000 = s / 1000000000) ∧ (s.tmod 1000000000 < 0 → s.tmod 1000000000 + 1000000000 = s % 1000000000 ∧ s.tdiv 1000000000 - 1 = s / 1000000000) := by
  have h1 := Int.mul_tdiv_add_tmod s 1000000000
  have h2 := Int.tmod_lt_of_pos s (show (0 : Int) < 1000000000 by decide)
  have h3 := Int.lt_tmod_of_pos s (show (0 : Int) < 1000000000 by decide)
  generalize s.tmod 1000000000 = t at h1 h2 h3 ⊢
  generalize s.tdiv 1000000000 = q at h1 ⊢
  constructor <;> intro h <;> omega
theorem wrap_in {x : Int} (h0 : -9223372036854775808 ≤ x) (h1 : x ≤ 9223372036854775807) : wrap64 x = x := by unfold wrap64; omega
theorem Blk.lay1 {w : World} {g off k : Nat} {L : List Int} {T y : Int} (h : Blk w g (lay L off T k)) (hl : off + k < L.length) (hy : y = dgt T k) : Blk (w.setCell ⟨g, off + k, none⟩ (.int .i64 y)) g (lay L off T (k + 1)) := by
  have := h.set (off + k) y
  rw [hy, lay_set T hl] at this
  rw [hy]
  exact this
theorem Blk.lay2 {w : World} {g off k : Nat} {L : List Int} {T x y : Int} (h : Blk w g (lay L off T k)) (hl : off + k < L.length) (hy : y = dgt T k) : Blk ((w.setCell ⟨g, off + k, none⟩ (.int .i64 x)).setCell ⟨g, off + k, none⟩ (.int .i64 y)) g (lay L off T (k + 1)) := by
  have := (h.set (off + k) x).set (off + k) y
  rw [set_set, hy, lay_set T hl] at this
  rw [hy]
  exact this

set_option maxHeartbeats 1600000 in
theorem pass_any (g off n N m : Nat) (L : List Int) (v u f : Int) (A : Option Addr) (c d : Nat) (w : World)
    (hL : L.length = N) (hN : off + n ≤ N) (hN' : N ≤ 1048576) (hm : m ≤ 1048576)
    (hv : ∀ j, j < n → L[off + j]? = some (dgt v j)) (hA : RdS w A (vi (row m u))) (hu0 : 0 ≤ u) (hu : u < pw m)
    (hAg : 0 < m → ∀ b o, A = some ⟨b, o, none⟩ → b ≠ g) (hB : Blk w g L) (hf : -1000000000 ≤ f) (hf' : f ≤ 1000000000) :
    Calls Tryz.prog 123 #[.slice (some ⟨g, off, none⟩) n c, .slice A m d, .int .i64 f] w fun e w' => e = .returned (.int .i64 (car v u f n)) ∧ Blk w' g (lay L off (v + f * u) n) ∧ w.grownBy w' (some g) := by
  have HL := Lib.hid hL
  have HV := Lib.hid hv
  have HU := Lib.hid (And.intro hu0 hu)
  have HG := Lib.hid hAg
  clear hL hv hu0 hu hAg
  go_enter Tryz.func123, Tryz.ntmps123
  go_wp2
  go_loopw [7, 11] (fun q i w' => ∃ (k : Nat) (x : Int), k ≤ n ∧ i = .int .i64 (k : Int) ∧ q = .int .i64 x ∧ x = car v u f k ∧ Blk w' g (lay L off (v + f * u) k) ∧ w.grownBy w' (some g)) (fun _ i _ => n - (intOf i).toNat)
  case atStart => exact ⟨0, 0, Nat.zero_le _, rfl, rfl, (car_zero _ _ _).symm, by rw [lay_zero]; exact hB, grown_refl _ _⟩
  case round =>
    clear hB
    obtain ⟨k, x, hk, rfl, rfl, hx0, hb, hgr⟩ := hrel
    have hcb := car_bound (v := v) (w := u) hf hf' k
    rw [← hx0] at hcb
    obtain ⟨hx1, hx2⟩ := hcb
    have hX := Lib.hid hx0
    clear hx0
    by_cases hlt : k < n
    · have hi0 : (0 : Int) ≤ (k : Int) := by omega
      have hi1 : (k : Int) < (n : Int) := by omega
      have hat : (lay L off (v + f * u) k)[off + k]? = some (dgt v k) := by rw [lay_at _ (by rw [HL.out]; omega), HV.out k hlt]
      have hc1 := hb.cell hat
      have hf1 := hb.free (off + k)
      have hd0 := dgt_nonneg v k
      have hd1 := dgt_lt v k
      have hcs := Lib.hid (car_succ v u f k)
      have hds := Lib.hid (dgt_pass v u f k)
      by_cases hkm : k < m
      · obtain ⟨b1, o1, rfl, hb1, e1⟩ := (hA.grown (HG.out (by omega)) hgr).int (row_get (n := m) u hkm)
        have hp := prod_bound (w := u) hf hf' k
        obtain ⟨hp1, hp2⟩ := hp
        have hi2 : (k : Int) < (m : Int) := by omega
        generalize dgt v k = y at hc1 hd0 hd1 hcs hds hat
        generalize dgt u k = z at e1 hp1 hp2 hcs hds
        go_wp2
        · have hneg : (x + y + f * z).tmod 1000000000 < 0 := by assumption
          have hqr := ((quo_rem (x + y + f * z)).2 hneg)
          have hm0 := Int.emod_nonneg (x + y + f * z) (show (1000000000 : Int) ≠ 0 by decide)
          have hm1 := Int.emod_lt_of_pos (x + y + f * z) (show (0 : Int) < 1000000000 by decide)
          have w1 := wrap_in (x := (x + y + f * z).tmod 1000000000 + 1000000000) (by omega) (by omega)
          have w2 := wrap_in (x := (x + y + f * z).tdiv 1000000000 - 1) (by omega) (by omega)
          go_roundw
          case rel => exact ⟨k + 1, _, by omega, by go_num, rfl, by rw [w2, hqr.2, hcs.out, hX.out], hb.lay2 (by rw [HL.out]; omega) (by rw [w1, hqr.1, hds.out, hX.out]), grown_setCell (grown_setCell hgr _ _) _ _⟩
          case measure => simp [intOf]; omega
        · have hqr := ((quo_rem (x + y + f * z)).1 (by assumption))
          go_roundw
          case rel => exact ⟨k + 1, _, by omega, by go_num, rfl, by rw [hqr.2, hcs.out, hX.out], hb.lay1 (by rw [HL.out]; omega) (by rw [hqr.1, hds.out, hX.out]), grown_setCell hgr _ _⟩
          case measure => simp [intOf]; omega
      · have hu := dgt_small (n := m) (i := k) HU.out.1 HU.out.2 (by omega)
        have hi2 : ¬ (k : Int) < (m : Int) := by omega
        rw [hu, Int.mul_zero, Int.add_zero] at hcs hds
        clear hu
        generalize dgt v k = y at hc1 hd0 hd1 hcs hds hat
        go_wp2
        · have hneg : (x + y).tmod 1000000000 < 0 := by assumption
          have hqr := ((quo_rem (x + y)).2 hneg)
          have hm0 := Int.emod_nonneg (x + y) (show (1000000000 : Int) ≠ 0 by decide)
          have hm1 := Int.emod_lt_of_pos (x + y) (show (0 : Int) < 1000000000 by decide)
          have w1 := wrap_in (x := (x + y).tmod 1000000000 + 1000000000) (by omega) (by omega)
          have w2 := wrap_in (x := (x + y).tdiv 1000000000 - 1) (by omega) (by omega)
          go_roundw
          case rel => exact ⟨k + 1, _, by omega, by go_num, rfl, by rw [w2, hqr.2, hcs.out, hX.out], hb.lay2 (by rw [HL.out]; omega) (by rw [w1, hqr.1, hds.out, hX.out]), grown_setCell (grown_setCell hgr _ _) _ _⟩
          case measure => simp [intOf]; omega
        · have hqr := ((quo_rem (x + y)).1 (by assumption))
          go_roundw
          case rel => exact ⟨k + 1, _, by omega, by go_num, rfl, by rw [hqr.2, hcs.out, hX.out], hb.lay1 (by rw [HL.out]; omega) (by rw [hqr.1, hds.out, hX.out]), grown_setCell hgr _ _⟩
          case measure => simp [intOf]; omega
    · obtain rfl : k = n := by omega
      go_wp2
      go_ret
      exact ⟨ret_int' hX.out, hb, hgr⟩
end Go.Proofs.YtennekieiioilaaGreat

namespace Go.Proofs.YtennekieiioilaaGreat
open Go.ChangeShapes Go.WideShapes Go.ChangeAt Go.RowKit
open Go.ChangeMaps (open_string shut_string)
set_option linter.unusedVariables false
set_option linter.unusedSimpArgs false

theorem row_more {n e : Nat} {v : Int} (h0 : 0 ≤ v) (h : v < pw n) : row (n + e) v = row n v ++ row e 0 := by
  apply List.ext_getElem?
  intro j
  rcases Nat.lt_or_ge j n with h1 | h1
  · rw [List.getElem?_append_left (by rw [row_length]; exact h1), row_get _ h1, row_get _ (by omega)]
  · rw [List.getElem?_append_right (by rw [row_length]; exact h1), row_length]
    rcases Nat.lt_or_ge j (n + e) with h2 | h2
    · rw [row_get _ h2, row_get _ (by omega), dgt_zero, dgt_small h0 h h1]
    · rw [List.getElem?_eq_none (by rw [row_length]; exact h2), List.getElem?_eq_none (by rw [row_length]; omega)]
theorem wide_row {v n : Nat} (h : ln v ≤ n) : row n v = nd v ++ row (n - ln v) 0 := by
  have := row_more (n := ln v) (e := n - ln v) (v := v) (by omega) (ln_lt v)
  rw [show ln v + (n - ln v) = n by omega] at this
  exact this

/-- A place to halt the walk at. -/
def Cut (p : Prop) : Prop := p
theorem cut_here {p : Prop} (h : Cut p) : p := h
theorem Cut.of {p : Prop} (h : p) : Cut p := h

set_option maxHeartbeats 800000 in
theorem copy_any (v : Nat) (A : Option Addr) (n c e : Nat) (w : World) (hl : ln v = n) (hn : n ≤ 1048576) (he : e ≤ 1048576) (hA : RdS w A (vi (nd v))) :
    Calls Tryz.prog 84 #[.slice A n c, .int .i64 (e : Int)] w fun q w' => ∃ g, w.heap.size ≤ g ∧ q = .returned (.slice (some ⟨g, 0, none⟩) (n + e) (n + e)) ∧ Blk w' g (row (n + e) v) ∧ Below w.heap.size w w' := by
  obtain ⟨i0, hi, hz0, hz1, hz2⟩ := info_parts int_info
  have HL := Lib.hid hl
  have hinfo : (Tryz.prog.info? 3).map (·.size) = some 1 := by rw [hi]; simp [hz1]
  clear hl
  go_enter Tryz.func84, Tryz.ntmps84
  go_wp2_with (refine wpList_make_full _ rfl (.tmp 9) (.tmp 9) 26 rfl w.heap.size 3 i0 _ 1 Tryz.underlying26 hi hz0 hz1 .i64 .i64 ((n : Int) + (e : Int)) ((n : Int) + (e : Int)) (n + e) rfl rfl (by omega) (by omega) (by rw [hz2]; omega) (by simp only [maxLen]; omega) (Nat.le_refl _) ?_; intro w1 hown hg; refine cut_here ?_)
  have hb1 : Below w.heap.size w w1 := below_of_grown hg (Nat.le_refl _) (fun g h => by cases h)
  have hB := Blk.of_made hown (zeros (n + e))
  have hA1 := hA.below hb1
  clear hown hg
  have hlen : (vi (nd v)).length = n := by rw [vi_length, nd_length, HL.out]
  have hpos : 0 < (vi (nd v)).length → (some (⟨w.heap.size, 0, none⟩ : Addr)) = some ⟨w.heap.size, 0, none⟩ ∧ ∃ ad, A = some ad ∧ ∀ j x, (vi (nd v))[j]? = some x → w1.cell? (ad.add j) = some x := fun h0 => by
    obtain ⟨b, off, ha, hbl, hc⟩ := hA1.block h0
    refine ⟨rfl, ⟨b, off, none⟩, ha, fun j x hx => ?_⟩
    have hj : j < (vi (nd v)).length := by
      rcases Nat.lt_or_ge j (vi (nd v)).length with h1 | h1
      · exact h1
      · rw [List.getElem?_eq_none h1] at hx; cases hx
    rw [add_plain, hc j hj, hx]
  have hsp : splice (vi (row (n + e) 0)) 0 (vi (nd v)) = vi (row (n + e) v) := by
    have h1 := wide_row (v := v) (n := n + e) (by rw [HL.out]; omega)
    rw [h1, HL.out, show n + e - n = e by omega]
    have h2 : row (n + e) 0 = row n 0 ++ row e 0 := row_more (Int.le_refl _) (pw_pos n)
    rw [h2, vi_append, vi_append]
    unfold splice
    rw [List.take_zero, List.nil_append, Nat.zero_add, hlen]
    rw [List.drop_append_of_le_length (by rw [vi_length, row_length]; exact Nat.le_refl _), List.drop_of_length_le (by rw [vi_length, row_length]; exact Nat.le_refl _), List.nil_append]
  have hsm : ∀ x ∈ vi (nd v), x.oneCell' = true := by
    intro x hx
    obtain ⟨y, _, rfl⟩ := List.mem_map.1 hx
    rfl
  have hmin : (vi (nd v)).length = Nat.min n (n + e) := by rw [hlen]; exact (Nat.min_eq_left (by omega)).symm
  have hfit : 0 + (vi (nd v)).length ≤ (vi (row (n + e) 0)).length := by rw [hlen, vi_length, row_length]; omega
  have HSP := Lib.hid hsp
  clear hsp hlen
  generalize vi (nd v) = cs at *
  generalize hcur : vi (row (n + e) 0) = cur at *
  have hB' : w1.heap[w.heap.size]? = some (.cells cur.toArray 3 (0, 0)) := by rw [← hcur]; exact hB
  clear hcur hB
  refine Cut.of ?_
  go_wp2_with (with_reducible show wpList _ _ _ _ _ _; refine wpList_copy_splice (o := ⟨some 13, _, _, _, _, _⟩) rfl (.tmp 11) (.tmp 12) 26 26 rfl 3 Tryz.underlying26 hinfo (some ⟨w.heap.size, 0, none⟩) A (n + e) (n + e) n c rfl rfl w.heap.size 0 cur 3 hB' cs hmin hpos hfit hsm w.heap.size w hb1 (Nat.le_refl _) ?_; intro w2 HG2 hB2)
  go_ret
  refine ⟨w.heap.size, Nat.le_refl _, rfl, ?_, hB2⟩
  have h2 := HG2.out
  rw [HSP.out] at h2
  exact h2

theorem cap60_in {T : Nat} (h : ln T ≤ 60) : cap60 T = nd T := if_pos h
theorem cap60_out {T : Nat} (h : 60 < ln T) : cap60 T = [] := if_neg (by omega)

set_option maxHeartbeats 800000 in
theorem natOfRow_any (B g n c T : Nat) (w : World) (hBg : B ≤ g) (hb : Blk w g (row n T)) (hT : ln T ≤ n) (hc : n ≤ c) (hn : n ≤ 1048576) (hcm : c ≤ 1048576) :
    Calls Tryz.prog 125 #[.slice (some ⟨g, 0, none⟩) n c] w (MadeI B (cap60 T) w) := by
  go_enter Tryz.func125, Tryz.ntmps125
  go_wp2
  go_loop [3] (fun i => ∃ k : Nat, k ≤ n ∧ ln T ≤ k ∧ i = .int .i64 (k : Int)) (fun i => (intOf i).toNat)
  case atStart => exact ⟨n, Nat.le_refl _, hT, rfl⟩
  case round =>
    obtain ⟨k, hk, hTk, rfl⟩ := hrel
    by_cases hz : 0 < k ∧ dgt T (k - 1) = 0
    · have hc1 := hb.cell (row_get (n := n) (i := k - 1) T (by omega))
      have h2 := trim_step hz.1 hTk hz.2
      have hp := hz.1
      rw [hz.2] at hc1
      have hk1 : ((k : Int) - 1) = ((k - 1 : Nat) : Int) := by omega
      have hk0 : (0 : Int) ≤ (k : Int) - 1 := by omega
      have hk2 : (k : Int) - 1 < (n : Int) := by omega
      have hkt : ((k : Int) - 1).toNat = k - 1 := by omega
      clear hz
      go_wp2
      go_round
      case rel => exact ⟨k - 1, by omega, h2, by go_num⟩
      case measure => simp [intOf]; omega
    · have hkT : Hid (ln T = k) := by
        refine Lib.hid ?_
        by_cases h0 : 0 < k
        · exact trim_stop h0 hTk (fun e => hz ⟨h0, e⟩)
        · omega
      have fin : k ≤ 60 → MadeI B (cap60 T) w (.returned (.slice (some ⟨g, 0, none⟩) k k)) w := fun h => by
        rw [cap60_in (by rw [hkT.out]; exact h)]
        refine ⟨some ⟨g, 0, none⟩, k, by rw [nd_length, hkT.out], by rw [nd_length, hkT.out]; exact Nat.le_refl _, ?_, Below.refl _ _⟩
        have h1 := (hb.own hBg).take k
        rw [← vi_take, row_take T hk] at h1
        unfold nd
        rw [hkT.out]
        exact h1
      by_cases h0 : 0 < k
      · have hc1 := hb.cell (row_get (n := n) (i := k - 1) T (by omega))
        have hne : dgt T (k - 1) ≠ 0 := fun e => hz ⟨h0, e⟩
        have hk1 : ((k : Int) - 1) = ((k - 1 : Nat) : Int) := by omega
        clear hz
        generalize dgt T (k - 1) = x at hc1 hne
        have q : (x == 0) = false := by rw [beq_eq_false_iff_ne]; exact hne
        by_cases h60 : 60 < k
        · go_wp2
          go_ret
          rw [cap60_out (by rw [hkT.out]; exact h60)]
          exact ⟨none, 0, rfl, Nat.le_refl _, .inl rfl, Below.refl _ _⟩
        · go_wp2
          go_ret
          exact fin (by omega)
      · obtain rfl : k = 0 := by omega
        go_wp2
        go_ret
        exact fin (by omega)

theorem window_any (g off N c i n : Nat) (w : World) (hn : 0 < n) (hi : i + n ≤ c) (hc : c ≤ 1048576) (hN : i ≤ N) (hNc : N ≤ c) :
    Calls Tryz.prog 124 #[.slice (some ⟨g, off, none⟩) N c, .int .i64 (i : Int), .int .i64 (n : Int)] w fun e w' => e = .returned (.slice (some ⟨g, off + i, none⟩) n n) ∧ w = w' := by
  go_enter Tryz.func124, Tryz.ntmps124
  go_wp2
  go_ret
  refine ⟨?_, rfl⟩
  show Ending.returned (.slice (some ⟨g, off + i, none⟩) (i + n - i) (i + n - i)) = _
  rw [Nat.add_sub_cancel_left]
end Go.Proofs.YtennekieiioilaaGreat

namespace Go.Proofs.YtennekieiioilaaGreat
open Go.ChangeShapes Go.WideShapes Go.ChangeAt Go.RowKit
open Go.ChangeMaps (open_string shut_string)
set_option linter.unusedVariables false
set_option linter.unusedSimpArgs false

set_option maxHeartbeats 800000 in
theorem impl_natOf (N : Nat) (w : World) (hN : N ≤ 9223372036854775807) :
    Calls Tryz.prog 83 #[.int .i64 (N : Int)] w (MadeI w.heap.size (nd N) w) := by
  have hl3 := ln_small N hN
  go_enter Tryz.func83, Tryz.ntmps83
  go_wp2
  go_loopw [0, 3] (fun i v w' => ∃ (k m : Nat), k ≤ ln N ∧ i = .int .i64 (m : Int) ∧ (m : Int) = (N : Int) / pw k ∧ w'.ownsRow w.heap.size 3 1 v k (vi (row k N)) ∧ Below w.heap.size w w' ∧ m ≤ N) (fun i _ _ => (intOf i).toNat)
  case atStart => exact ⟨0, N, Nat.zero_le _, rfl, (div_zero _).symm, World.ownsRow_nil _ _ _ _, Below.refl _ _, Nat.le_refl _⟩
  case round =>
    obtain ⟨k, m, hk, rfl, hm0, hown, hb, hmN⟩ := hrel
    have hm := Lib.hid hm0
    clear hm0
    by_cases hp : 0 < m
    · have hk1 : k < ln N := ln_more (by rw [← hm.out]; omega)
      have e : Hid ((m : Int) % 1000000000 = dgt N k) := Lib.hid (by rw [hm.out]; rfl)
      go_wp2_with (at_builtin; refine append_int rfl (.tmp 8) (.tmp 11) rfl w.heap.size _ _ (row k N) ((m : Int) % 1000000000) wr rfl rfl hown (by omega) hb.size ?_; intro v' w1 hown1 hb1 hs1)
      go_roundw
      case rel => exact ⟨k + 1, m / 1000000000, by omega, by go_num, by rw [div_succ, ← hm.out]; omega, by rw [row_succ, ← e.out]; exact hown1, hb.trans hb1, by omega⟩
      case measure => simp [intOf]; omega
    · obtain rfl : m = 0 := by omega
      have hkl := ln_stop (by rw [← hm.out]; rfl) hk
      go_wp2
      go_ret
      subst hkl
      exact made_own hown hb

theorem impl_natOf_int (x : Int) (w : World) (hx : x ≤ 9223372036854775807) :
    Calls Tryz.prog 83 #[.int .i64 x] w (MadeI w.heap.size (nd x.toNat) w) := by
  by_cases h : 0 ≤ x
  · obtain ⟨N, rfl⟩ := Int.eq_ofNat_of_zero_le h
    exact impl_natOf N w (by omega)
  · have h0 : x < 0 := by omega
    rw [show x.toNat = 0 by omega, nd_zero]
    go_enter Tryz.func83, Tryz.ntmps83
    go_wp2
    go_loopw [0, 3] (fun i v w' => i = .int .i64 x ∧ v = .slice none 0 0 ∧ w = w') (fun i _ _ => 0)
    case atStart => exact ⟨rfl, rfl, rfl⟩
    case round =>
      obtain ⟨rfl, rfl, rfl⟩ := hrel
      go_wp2
      go_ret
      exact ⟨none, 0, rfl, Nat.le_refl _, .inl rfl, Below.refl _ _⟩

end Go.Proofs.YtennekieiioilaaGreat

namespace Go.Proofs.YtennekieiioilaaGreat
open Go.ChangeShapes Go.WideShapes Go.ChangeAt Go.RowKit
open Go.ChangeMaps (open_string shut_string)
set_option linter.unusedVariables false
set_option linter.unusedSimpArgs false

set_option maxHeartbeats 800000 in
theorem spec_natOf (N : Nat) (w : World) (hN : N ≤ 9223372036854775807) :
    Calls Tryz.prog 106 #[.int .i64 (N : Int)] w (MadeI w.heap.size (nd N) w) := by
  have hl3 := ln_small N hN
  have hstart : (w.alloc (.cells #[] 3)).ownsRow w.heap.size 3 1 (.slice (some ⟨w.heap.size, 0, none⟩) 0 0) 0 (vi (row 0 N)) := World.ownsRow_made w #[] 0 (by omega) (by simp [maxLen]) rfl
  go_enter Tryz.func106, Tryz.ntmps106
  go_wp2
  go_loopw [0, 3] (fun i v w' => ∃ (k m : Nat), k ≤ ln N ∧ i = .int .i64 (m : Int) ∧ (m : Int) = (N : Int) / pw k ∧ w'.ownsRow w.heap.size 3 1 v k (vi (row k N)) ∧ Below w.heap.size w w' ∧ m ≤ N) (fun i _ _ => (intOf i).toNat)
  case atStart => exact ⟨0, N, Nat.zero_le _, rfl, (div_zero _).symm, hstart, (Below.refl _ _).alloc (Nat.le_refl _) _, Nat.le_refl _⟩
  case round =>
    clear hstart
    obtain ⟨k, m, hk, rfl, hm0, hown, hb, hmN⟩ := hrel
    have hm := Lib.hid hm0
    clear hm0
    by_cases hp : 0 < m
    · have hk1 : k < ln N := ln_more (by rw [← hm.out]; omega)
      have e : Hid ((m : Int) % 1000000000 = dgt N k) := Lib.hid (by rw [hm.out]; rfl)
      go_wp2_with (at_builtin; refine append_int rfl (.tmp 7) (.tmp 10) rfl w.heap.size _ _ (row k N) ((m : Int) % 1000000000) wr rfl rfl hown (by omega) hb.size ?_; intro v' w1 hown1 hb1 hs1)
      go_roundw
      case rel => exact ⟨k + 1, m / 1000000000, by omega, by go_num, by rw [div_succ, ← hm.out]; omega, by rw [row_succ, ← e.out]; exact hown1, hb.trans hb1, by omega⟩
      case measure => simp [intOf]; omega
    · obtain rfl : m = 0 := by omega
      have hkl := ln_stop (by rw [← hm.out]; rfl) hk
      go_wp2
      go_ret
      subst hkl
      exact made_own hown hb

theorem spec_natOf_int (x : Int) (w : World) (hx : x ≤ 9223372036854775807) :
    Calls Tryz.prog 106 #[.int .i64 x] w (MadeI w.heap.size (nd x.toNat) w) := by
  by_cases h : 0 ≤ x
  · obtain ⟨N, rfl⟩ := Int.eq_ofNat_of_zero_le h
    exact spec_natOf N w (by omega)
  · have h0 : x < 0 := by omega
    rw [show x.toNat = 0 by omega, nd_zero]
    go_enter Tryz.func106, Tryz.ntmps106
    go_wp2
    go_loopw [0, 3] (fun i v w' => i = .int .i64 x ∧ (∃ A, v = .slice A 0 0) ∧ Below w.heap.size w w') (fun i _ _ => 0)
    case atStart => exact ⟨rfl, ⟨_, rfl⟩, (Below.refl _ _).alloc (Nat.le_refl _) _⟩
    case round =>
      obtain ⟨rfl, ⟨A, rfl⟩, hb⟩ := hrel
      go_wp2
      go_ret
      exact ⟨A, 0, rfl, Nat.le_refl _, .inl rfl, hb⟩
end Go.Proofs.YtennekieiioilaaGreat

namespace Go.Proofs.YtennekieiioilaaGreat
open Go.ChangeShapes Go.WideShapes Go.ChangeAt Go.RowKit
open Go.ChangeMaps (open_string shut_string)
set_option linter.unusedVariables false
set_option linter.unusedSimpArgs false

/-- The answer: the number and whether it is an int. -/
def toV (l : List Int) : Int := if ok l && decide (val l ≤ 9223372036854775807) then (val l : Int) else 0
def toB (l : List Int) : Bool := ok l && decide (val l ≤ 9223372036854775807)
theorem ret_two {a b : Int} {p q : Bool} (h : a = b) (h2 : p = q) : Ending.returned (.tuple #[.int .i64 a, .bool p]) = .returned (.tuple #[.int .i64 b, .bool q]) := by rw [h, h2]
theorem div_le (a : Nat) (k : Nat) : (a : Int) / pw k ≤ a := Int.ediv_le_self _ (by omega)
theorem div_nn (a : Nat) (k : Nat) : 0 ≤ (a : Int) / pw k := Int.ediv_nonneg (by omega) (Int.le_of_lt (pw_pos k))
theorem toV_no {l : List Int} (h : ok l = false) : toV l = 0 ∧ toB l = false := by unfold toV toB; rw [h]; exact ⟨rfl, rfl⟩
theorem toV_big {a : Nat} (h : 9223372036854775807 < a) : toV (nd a) = 0 ∧ toB (nd a) = false := by
  have : decide (a ≤ 9223372036854775807) = false := decide_eq_false (by omega)
  unfold toV toB
  rw [val_nd, this, Bool.and_false]
  exact ⟨rfl, rfl⟩
theorem toV_yes {a : Nat} (h60 : ln a ≤ 60) (h : a ≤ 9223372036854775807) : toV (nd a) = a ∧ toB (nd a) = true := by
  unfold toV toB
  rw [val_nd, nd_ok h60, decide_eq_true h]
  exact ⟨rfl, rfl⟩

set_option maxHeartbeats 800000 in
theorem impl_toInt (l : List Int) (A : Option Addr) (n c : Nat) (w : World) (hl : l.length = n) (hn : n ≤ 9223372036854775807) (hA : RdS w A (vi l)) :
    Calls Tryz.prog 119 #[.slice A n c] w fun e w' => e = .returned (.tuple #[.int .i64 (toV l), .bool (toB l)]) ∧ w = w' := by
  have H1 := impl_ok l A n c w hl hn hA
  by_cases hk : ok l = true
  · rw [hk] at H1
    obtain ⟨a, rfl, ha⟩ := ok_nd hk
    rw [nd_length] at hl
    clear hk
    have hst : (0 : Int) = (a : Int) / pw n := (div_small (by omega) (by subst hl; exact ln_lt a)).symm
    have HN := Lib.hid hl
    have HA := Lib.hid ha
    have hn60 : n ≤ 60 := by omega
    clear hl ha
    go_enter Tryz.func119, Tryz.ntmps119
    go_wp2_with fail
    refine H1.mono ?_
    rintro e w1 ⟨rfl, rfl⟩
    go_wp2_with fail
    go_loop [4, 5] (fun v i => ∃ (k : Nat) (x y : Int), k ≤ n ∧ v = .int .i64 y ∧ y = (a : Int) / pw k ∧ y ≤ 9223372036854775807 ∧ 0 ≤ y ∧ i = .int .i64 x ∧ x = (k : Int) - 1) (fun _ i => (intOf i + 1).toNat)
    case atStart => exact ⟨n, _, 0, Nat.le_refl _, rfl, hst, by omega, by omega, rfl, rfl⟩
    case round =>
      clear hst
      obtain ⟨k, x, y, hk, rfl, hy, hy1, hy0, rfl, hx⟩ := hrel
      have hY := Lib.hid hy
      clear hy
      rcases k with _ | j
      · obtain rfl : x = -1 := by omega
        clear hx
        have hya : Hid (y = (a : Int)) := Lib.hid (by rw [hY.out, div_zero])
        have hres : Hid (toV (nd a) = y ∧ toB (nd a) = true) := Lib.hid (by have h1 := hya.out; rw [h1]; exact toV_yes HA.out (by omega))
        go_wp2
        go_ret2
        exact ⟨ret_two hres.out.1.symm hres.out.2.symm, rfl⟩
      · obtain rfl : x = (j : Int) := by omega
        clear hx
        have hlt : j < n := by omega
        obtain ⟨b1, o1, rfl, hb1, e1⟩ := hA.int (nd_get (v := a) (i := j) (by rw [HN.out]; exact hlt))
        have hd0 := dgt_nonneg a j
        have hd1 := dgt_lt a j
        have hsp : Hid ((a : Int) / pw j = y * 1000000000 + dgt a j) := Lib.hid (by rw [hY.out]; exact div_split _ _)
        generalize dgt a j = z at e1 hd0 hd1 hsp
        have hi0 : (0 : Int) ≤ (j : Int) := by omega
        have hi1 : (j : Int) < (n : Int) := by omega
        have hz0 : 0 ≤ 9223372036854775807 - z := by omega
        by_cases hbig : (9223372036854775807 - z) / 1000000000 < y
        · have hres : Hid (toV (nd a) = 0 ∧ toB (nd a) = false) := Lib.hid (toV_big (by have h1 := div_le a j; rw [hsp.out] at h1; omega))
          go_wp2
          go_ret2
          exact ⟨ret_two hres.out.1.symm hres.out.2.symm, rfl⟩
        · have hb2 : y * 1000000000 + z ≤ 9223372036854775807 := by omega
          have hb3 : y * 1000000000 ≤ 9223372036854775807 := by omega
          go_wp2
          go_round
          case rel => exact ⟨j, _, _, by omega, rfl, hsp.out.symm, by omega, by omega, rfl, rfl⟩
          case measure => simp [intOf]
  · have hk' : ok l = false := by simpa using hk
    rw [hk'] at H1
    have hres := Lib.hid (toV_no hk')
    clear hk hk' hl
    go_enter Tryz.func119, Tryz.ntmps119
    go_wp2_with fail
    refine H1.mono ?_
    rintro e w1 ⟨rfl, rfl⟩
    go_wp2
    go_ret2
    exact ⟨ret_two hres.out.1.symm hres.out.2.symm, rfl⟩

theorem nd_max : nd 9223372036854775807 = [854775807, 223372036, 9] ∧ ln 9223372036854775807 = 3 := by
  have h3 : ln 9223372036854775807 = 3 := by
    rw [ln_pos (by decide), show 9223372036854775807 / 1000000000 = 9223372036 by decide, ln_pos (by decide), show 9223372036 / 1000000000 = 9 by decide, ln_pos (by decide), show 9 / 1000000000 = 0 by decide, ln_zero]
  refine ⟨?_, h3⟩
  unfold nd
  rw [h3]
  decide

set_option maxHeartbeats 800000 in
theorem spec_toInt (l : List Int) (A : Option Addr) (n c : Nat) (w : World) (hl : l.length = n) (hn : n ≤ 9223372036854775807) (hA : RdS w A (vi l)) :
    Calls Tryz.prog 127 #[.slice A n c] w fun e w' => e = .returned (.tuple #[.int .i64 (toV l), .bool (toB l)]) ∧ Below w.heap.size w w' := by
  have H1 := spec_ok l A n c w hl hn hA
  by_cases hk : ok l = true
  · rw [hk] at H1
    obtain ⟨a, rfl, ha⟩ := ok_nd hk
    rw [nd_length] at hl
    clear hk
    have hB : RdS (w.alloc (.cells #[.int .i64 854775807, .int .i64 223372036, .int .i64 9] 3)) (some ⟨w.heap.size, 0, none⟩) (vi (nd 9223372036854775807)) := by
      rw [nd_max.1]
      have hb : Blk (w.alloc (.cells #[.int .i64 854775807, .int .i64 223372036, .int .i64 9] 3)) w.heap.size [854775807, 223372036, 9] := heap_alloc_new w _
      exact (hb.own (Nat.le_refl _)).rd
    have hba : Below w.heap.size w (w.alloc (.cells #[.int .i64 854775807, .int .i64 223372036, .int .i64 9] 3)) := (Below.refl _ _).alloc (Nat.le_refl _) _
    have HC := Lib.hid (spec_cmp a 9223372036854775807 A (some ⟨w.heap.size, 0, none⟩) n c 3 3 _ hl nd_max.2 (by omega) (by omega) (hA.below hba) hB)
    have hst : (0 : Int) = (a : Int) / pw n := (div_small (by omega) (by subst hl; exact ln_lt a)).symm
    have HN := Lib.hid hl
    have HA := Lib.hid ha
    have hn60 : n ≤ 60 := by omega
    clear hl ha hB
    by_cases hbig : 9223372036854775807 < a
    · have hres := Lib.hid (toV_big hbig)
      rw [cmpN_gt hbig] at HC
      clear hbig
      go_enter Tryz.func127, Tryz.ntmps127
      go_wp2_with fail
      refine H1.mono ?_
      rintro e w1 ⟨rfl, rfl⟩
      go_wp2_with fail
      refine HC.out.mono ?_
      rintro e w1 ⟨rfl, hb1⟩
      go_wp2
      go_ret2
      exact ⟨ret_two hres.out.1.symm hres.out.2.symm, bt hba hb1⟩
    · have hres := Lib.hid (toV_yes HA.out (show a ≤ 9223372036854775807 by omega))
      have hcm : cmpN a 9223372036854775807 ≤ 0 := by
        rcases Nat.lt_or_ge a 9223372036854775807 with h | h
        · rw [cmpN_lt h]; decide
        · rw [cmpN_eq (by omega)]; decide
      generalize cmpN a 9223372036854775807 = r at HC hcm
      have hmax : (a : Int) ≤ 9223372036854775807 := by omega
      clear hbig
      go_enter Tryz.func127, Tryz.ntmps127
      go_wp2_with fail
      refine H1.mono ?_
      rintro e w1 ⟨rfl, rfl⟩
      go_wp2_with fail
      refine HC.out.mono ?_
      rintro e w1 ⟨rfl, hb1⟩
      have hbw := bt hba hb1
      have hA1 := hA.below hbw
      clear hb1 hba hA
      go_wp2_with fail
      go_loop [4, 5] (fun v i => ∃ (k : Nat) (x y : Int), k ≤ n ∧ v = .int .i64 y ∧ y = (a : Int) / pw k ∧ y ≤ 9223372036854775807 ∧ 0 ≤ y ∧ i = .int .i64 x ∧ x = (k : Int) - 1) (fun _ i => (intOf i + 1).toNat)
      case atStart => exact ⟨n, _, 0, Nat.le_refl _, rfl, hst, by omega, by omega, rfl, rfl⟩
      case round =>
        clear hst
        obtain ⟨k, x, y, hk, rfl, hy, hy1, hy0, rfl, hx⟩ := hrel
        have hY := Lib.hid hy
        clear hy
        rcases k with _ | j
        · obtain rfl : x = -1 := by omega
          clear hx
          have hya : Hid (toV (nd a) = y) := Lib.hid (by rw [hres.out.1, hY.out, div_zero])
          go_wp2
          go_ret2
          exact ⟨ret_two hya.out.symm hres.out.2.symm, hbw⟩
        · obtain rfl : x = (j : Int) := by omega
          clear hx
          have hlt : j < n := by omega
          obtain ⟨b1, o1, rfl, hb1, e1⟩ := hA1.int (nd_get (v := a) (i := j) (by rw [HN.out]; exact hlt))
          have hd0 := dgt_nonneg a j
          have hsp : Hid ((a : Int) / pw j = y * 1000000000 + dgt a j) := Lib.hid (by rw [hY.out]; exact div_split _ _)
          have hb2 : y * 1000000000 + dgt a j ≤ 9223372036854775807 := by have h1 := div_le a j; rw [hsp.out] at h1; omega
          generalize dgt a j = z at e1 hd0 hsp hb2
          have hi0 : (0 : Int) ≤ (j : Int) := by omega
          have hi1 : (j : Int) < (n : Int) := by omega
          have hb3 : y * 1000000000 ≤ 9223372036854775807 := by omega
          go_wp2
          go_round
          case rel => exact ⟨j, _, _, by omega, rfl, hsp.out.symm, by omega, by omega, rfl, rfl⟩
          case measure => simp [intOf]
  · have hk' : ok l = false := by simpa using hk
    rw [hk'] at H1
    have hres := Lib.hid (toV_no hk')
    clear hk hk' hl
    go_enter Tryz.func127, Tryz.ntmps127
    go_wp2_with fail
    refine H1.mono ?_
    rintro e w1 ⟨rfl, rfl⟩
    go_wp2
    go_ret2
    exact ⟨ret_two hres.out.1.symm hres.out.2.symm, Below.refl _ _⟩

end Go.Proofs.YtennekieiioilaaGreat

namespace Go.Proofs.YtennekieiioilaaGreat
set_option linter.unusedVariables false
set_option linter.unusedSimpArgs false

/-! The quotient guessed from the highest limbs. -/
theorem guess_ge {P b S : Nat} (hS : 0 < S) (hd : 0 < b / S) : P / b ≤ P / S / (b / S) := by
  rw [Nat.le_div_iff_mul_le hd, Nat.le_div_iff_mul_le hS, Nat.mul_assoc]
  exact Nat.le_trans (Nat.mul_le_mul_left _ (Nat.div_mul_le_self b S)) (Nat.div_mul_le_self P b)
theorem guess_B {P b S : Nat} (hS : 0 < S) (hd : 1000000000 ≤ b / S) (hP : P < 1000000000 * b) : P / S / (b / S) ≤ 1000000000 := by
  have h1 : b < (b / S + 1) * S := by
    have := Nat.div_add_mod b S
    have h2 := Nat.mod_lt b hS
    rw [Nat.add_mul, Nat.mul_comm (b / S)]
    omega
  have h3 : P / S < 1000000000 * (b / S + 1) := by
    rw [Nat.div_lt_iff_lt_mul hS, Nat.mul_assoc]
    exact Nat.lt_trans hP (Nat.mul_lt_mul_of_pos_left h1 (by decide))
  have h4 : P / S / (b / S) < 1000000001 := by
    rw [Nat.div_lt_iff_lt_mul (by omega)]
    omega
  omega
theorem guess_le {P b S : Nat} (hS : 0 < S) (hb : 0 < b) (hd : 1000000000 ≤ b / S) (hP : P < 1000000000 * b) : P / S / (b / S) ≤ P / b + 1 := by
  have hB := guess_B hS hd hP
  rcases Nat.eq_zero_or_pos (P / S / (b / S)) with h0 | h0
  · rw [h0]; exact Nat.zero_le _
  · obtain ⟨k, hk⟩ : ∃ k, P / S / (b / S) = k + 1 := ⟨P / S / (b / S) - 1, by omega⟩
    rw [hk]
    refine Nat.succ_le_succ ?_
    rw [Nat.le_div_iff_mul_le hb]
    have h1 : b ≤ (b / S + 1) * S := by
      have := Nat.div_add_mod b S
      have h2 := Nat.mod_lt b hS
      rw [Nat.add_mul, Nat.mul_comm (b / S)]
      omega
    have h2 : (k + 1) * (b / S) ≤ P / S := by rw [← hk]; exact Nat.div_mul_le_self _ _
    have h3 : k * (b / S + 1) ≤ (k + 1) * (b / S) := by
      rw [Nat.mul_add, Nat.add_mul]
      omega
    calc k * b ≤ k * ((b / S + 1) * S) := Nat.mul_le_mul_left _ h1
      _ = (k * (b / S + 1)) * S := (Nat.mul_assoc _ _ _).symm
      _ ≤ P / S * S := Nat.mul_le_mul_right _ (Nat.le_trans h3 h2)
      _ ≤ P := Nat.div_mul_le_self _ _
/-- The number of the three highest places. -/
theorem top3 (T : Int) (i : Nat) : (dgt T (i + 2) * 1000000000 + dgt T (i + 1)) * 1000000000 + dgt T i = T / pw i - T / pw (i + 3) * 1000000000000000000000000000 := by
  have h1 := div_split T i
  have h2 : T / pw (i + 1) = T / pw (i + 2) * 1000000000 + dgt T (i + 1) := div_split T (i + 1)
  have h3 : T / pw (i + 2) = T / pw (i + 3) * 1000000000 + dgt T (i + 2) := div_split T (i + 2)
  omega

/-! Lehmer's steps. -/
theorem leh_low {xa yb D p r s t q α β : Int} (hD : 0 < D) (hp : 0 ≤ p) (hr : 0 ≤ r) (hs : 0 ≤ s) (ht : 0 ≤ t) (hq : 0 ≤ q) (hα : 0 ≤ α) (hβ : β ≤ D)
    (h : q * (yb + t) ≤ xa - r) : 0 ≤ (xa - q * yb) * D + (p + q * s) * α - (r + q * t) * β := by
  have h1 : 0 ≤ (p + q * s) * α := Int.mul_nonneg (Int.add_nonneg hp (Int.mul_nonneg hq hs)) hα
  have h2 : (r + q * t) * β ≤ (r + q * t) * D := Int.mul_le_mul_of_nonneg_left hβ (Int.add_nonneg hr (Int.mul_nonneg hq ht))
  have h3 : 0 ≤ (xa - q * yb - (r + q * t)) * D := Int.mul_nonneg (by rw [Int.mul_add] at h; omega) (Int.le_of_lt hD)
  rw [Int.sub_mul] at h3
  omega
theorem leh_high {xa yb D p r s t q α β : Int} (hD : 0 < D) (hp : 0 ≤ p) (hr : 0 ≤ r) (hs : 0 ≤ s) (ht : 0 ≤ t) (hq : 0 ≤ q) (hα : α ≤ D) (hβ : 0 ≤ β)
    (h : xa + p < (q + 1) * (yb - s)) : (xa - (q + 1) * yb) * D + (p + (q + 1) * s) * α - (r + (q + 1) * t) * β < 0 := by
  have h1 : 0 ≤ (r + (q + 1) * t) * β := Int.mul_nonneg (Int.add_nonneg hr (Int.mul_nonneg (by omega) ht)) hβ
  have h2 : (p + (q + 1) * s) * α ≤ (p + (q + 1) * s) * D := Int.mul_le_mul_of_nonneg_left hα (Int.add_nonneg hp (Int.mul_nonneg (by omega) hs))
  have h3 : 0 < ((q + 1) * yb - xa - (p + (q + 1) * s)) * D := Int.mul_pos (by rw [Int.mul_sub] at h; omega) hD
  rw [Int.sub_mul, Int.sub_mul] at h3
  rw [Int.sub_mul]
  omega
/-- What successive common steps keep: (fa fb | na nb) are the coefficients, xa and yb what is left of the heads x and y, X and Y of the numbers A and B. -/
structure Leh (x y A B fa fb na nb xa yb X Y : Int) : Prop where
  par : (0 ≤ fa ∧ fb ≤ 0 ∧ na ≤ 0 ∧ 1 ≤ nb ∧ x = nb * xa - fb * yb ∧ y = fa * yb - na * xa) ∨ (fa ≤ 0 ∧ 0 ≤ fb ∧ 0 ≤ na ∧ nb ≤ -1 ∧ x = fb * yb - nb * xa ∧ y = na * xa - fa * yb)
  exa : xa = fa * x + fb * y
  eyb : yb = na * x + nb * y
  eX : X = fa * A + fb * B
  eY : Y = na * A + nb * B
  ord : 0 ≤ yb ∧ yb ≤ xa
  pos : 0 ≤ Y ∧ Y ≤ X ∧ X ≤ A
  gcd : Int.gcd X Y = Int.gcd A B
  less : Y ≤ B ∧ (fb ≠ 0 → Y < B)

theorem Leh.start {x y A B : Int} (hy : 0 ≤ y) (hxy : y ≤ x) (hB : 0 ≤ B) (hAB : B ≤ A) : Leh x y A B 1 0 0 1 x y A B :=
  { par := .inl ⟨by omega, by omega, by omega, by omega, by omega, by omega⟩, exa := by omega, eyb := by omega, eX := by omega, eY := by omega
    ord := ⟨hy, hxy⟩, pos := ⟨hB, hAB, Int.le_refl _⟩, gcd := rfl, less := ⟨Int.le_refl _, fun h => absurd rfl h⟩ }

theorem gcd_step (X Y q : Int) : Int.gcd Y (X - q * Y) = Int.gcd X Y := by
  rw [Int.gcd_comm X Y, show X - q * Y = X + (-q) * Y by rw [Int.neg_mul]; omega]
  simp
theorem par_step {fb nb xa yb q : Int} : nb * (xa - q * yb) - (fb - q * nb) * yb = nb * xa - fb * yb := by
  rw [Int.mul_sub, Int.sub_mul]
  have : nb * (q * yb) = q * nb * yb := by rw [← Int.mul_assoc, Int.mul_comm nb q]
  omega
theorem lin_step (a b c d q x y : Int) : (a * x + b * y) - q * (c * x + d * y) = (a - q * c) * x + (b - q * d) * y := by
  rw [Int.sub_mul, Int.sub_mul, Int.mul_add, Int.mul_assoc, Int.mul_assoc]
  omega
/-- The numbers in terms of the heads: A = x D + α, B = y D + β. -/
theorem in_heads {x y D α β fa fb : Int} : fa * (x * D + α) + fb * (y * D + β) = (fa * x + fb * y) * D + fa * α + fb * β := by
  rw [Int.mul_add, Int.mul_add, Int.add_mul, Int.mul_assoc, Int.mul_assoc]
  omega

theorem le_div_both {q n d : Int} (hd : 0 < d) (h : q = n / d) : q * d ≤ n ∧ n < (q + 1) * d := by
  have h1 := Int.mul_ediv_add_emod n d
  have h2 := Int.emod_nonneg n (show d ≠ 0 by omega)
  have h3 := Int.emod_lt_of_pos n hd
  rw [← h] at h1
  rw [Int.add_mul, Int.mul_comm q d]
  omega

theorem Leh.step {x y A B D α β fa fb na nb xa yb X Y q : Int} (h : Leh x y A B fa fb na nb xa yb X Y) (hA : A = x * D + α) (hB : B = y * D + β) (hD : 0 < D)
    (ha0 : 0 ≤ α) (ha1 : α ≤ D) (hb0 : 0 ≤ β) (hb1 : β ≤ D) (hda : 0 < yb + na) (hdb : 0 < yb + nb)
    (hq1 : q = (xa + fa) / (yb + na)) (hq2 : q = (xa + fb) / (yb + nb)) :
    Leh x y A B na nb (fa - q * na) (fb - q * nb) yb (xa - q * yb) Y (X - q * Y) ∧ 1 ≤ q ∧ 0 ≤ X - q * Y ∧ X - q * Y < Y := by
  obtain ⟨l1, u1⟩ := le_div_both hda hq1
  obtain ⟨l2, u2⟩ := le_div_both hdb hq2
  have hXe : X = xa * D + fa * α + fb * β := by rw [h.eX, h.exa, hA, hB, in_heads]
  have hYe : Y = yb * D + na * α + nb * β := by rw [h.eY, h.eyb, hA, hB, in_heads]
  have hq : 1 ≤ q := by
    have h0 := h.ord
    rcases h.par with ⟨p1, p2, p3, p4, _⟩ | ⟨p1, p2, p3, p4, _⟩
    · rw [hq1, Int.le_ediv_iff_mul_le hda]; omega
    · rw [hq2, Int.le_ediv_iff_mul_le hdb]; omega
  have e1 : X - q * Y = (xa - q * yb) * D + (fa - q * na) * α + (fb - q * nb) * β := by
    rw [hXe, hYe]
    simp only [Int.sub_mul, Int.mul_add, Int.mul_assoc]
    omega
  have e2 : X - q * Y - Y = (xa - (q + 1) * yb) * D + (fa - (q + 1) * na) * α + (fb - (q + 1) * nb) * β := by
    rw [hXe, hYe]
    simp only [Int.sub_mul, Int.mul_add, Int.add_mul, Int.mul_assoc, Int.one_mul]
    omega
  have hlow : 0 ≤ X - q * Y := by
    rw [e1]
    rcases h.par with ⟨p1, p2, p3, p4, _⟩ | ⟨p1, p2, p3, p4, _⟩
    · have := leh_low (xa := xa) (yb := yb) (D := D) (p := fa) (r := -fb) (s := -na) (t := nb) (q := q) (α := α) (β := β) hD p1 (by omega) (by omega) (by omega) (by omega) ha0 hb1 (by omega)
      rw [show fa + q * -na = fa - q * na by rw [Int.mul_neg]; omega, show -fb + q * nb = -(fb - q * nb) by omega, Int.neg_mul] at this
      omega
    · have := leh_low (xa := xa) (yb := yb) (D := D) (p := fb) (r := -fa) (s := -nb) (t := na) (q := q) (α := β) (β := α) hD p2 (by omega) (by omega) (by omega) (by omega) hb0 ha1 (by omega)
      rw [show fb + q * -nb = fb - q * nb by rw [Int.mul_neg]; omega, show -fa + q * na = -(fa - q * na) by omega, Int.neg_mul] at this
      omega
  have hhigh : X - q * Y - Y < 0 := by
    rw [e2]
    rcases h.par with ⟨p1, p2, p3, p4, _⟩ | ⟨p1, p2, p3, p4, _⟩
    · have := leh_high (xa := xa) (yb := yb) (D := D) (p := fa) (r := -fb) (s := -na) (t := nb) (q := q) (α := α) (β := β) hD p1 (by omega) (by omega) (by omega) (by omega) ha1 hb0 (by rw [show yb - -na = yb + na by omega]; exact u1)
      rw [show fa + (q + 1) * -na = fa - (q + 1) * na by rw [Int.mul_neg]; omega, show -fb + (q + 1) * nb = -(fb - (q + 1) * nb) by omega, Int.neg_mul] at this
      omega
    · have := leh_high (xa := xa) (yb := yb) (D := D) (p := fb) (r := -fa) (s := -nb) (t := na) (q := q) (α := β) (β := α) hD p2 (by omega) (by omega) (by omega) (by omega) hb1 ha0 (by rw [show yb - -nb = yb + nb by omega]; exact u2)
      rw [show fb + (q + 1) * -nb = fb - (q + 1) * nb by rw [Int.mul_neg]; omega, show -fa + (q + 1) * na = -(fa - (q + 1) * na) by omega, Int.neg_mul] at this
      omega
  have hqs : ∀ z : Int, 0 ≤ z → 0 ≤ q * z := fun z hz => Int.mul_nonneg (by omega) hz
  have hqy : 0 ≤ xa - q * yb ∧ xa - q * yb ≤ yb := by
    rcases h.par with ⟨p1, p2, p3, p4, _⟩ | ⟨p1, p2, p3, p4, _⟩
    · have hz := hqs nb (by omega)
      have hz2 := hqs (-na) (by omega)
      rw [Int.mul_neg] at hz2
      rw [Int.mul_add] at l1 l2 u1 u2
      rw [Int.add_mul, Int.one_mul] at u1
      rw [Int.add_mul] at u1
      constructor <;> omega
    · have hz := hqs na (by omega)
      have hz2 := hqs (-nb) (by omega)
      rw [Int.mul_neg] at hz2
      rw [Int.mul_add] at l1 l2 u1 u2
      rw [Int.add_mul, Int.one_mul] at u2
      rw [Int.add_mul] at u2
      constructor <;> omega
  refine ⟨{ par := ?_, exa := h.eyb, eyb := by rw [h.exa, h.eyb]; exact lin_step _ _ _ _ _ _ _, eX := h.eY, eY := by rw [h.eX, h.eY]; exact lin_step _ _ _ _ _ _ _,
            ord := hqy, pos := ⟨hlow, by omega, by have := h.pos; omega⟩, gcd := by rw [gcd_step]; exact h.gcd, less := by have := h.less; constructor <;> omega }, hq, hlow, by omega⟩
  rcases h.par with ⟨p1, p2, p3, p4, p5, p6⟩ | ⟨p1, p2, p3, p4, p5, p6⟩
  · have hz := hqs nb (by omega)
    have hz2 := hqs (-na) (by omega)
    rw [Int.mul_neg] at hz2
    have k1 := par_step (fb := fb) (nb := nb) (xa := xa) (yb := yb) (q := q)
    have k2 := par_step (fb := fa) (nb := na) (xa := xa) (yb := yb) (q := q)
    have hn : q * 1 ≤ q * nb := Int.mul_le_mul_of_nonneg_left p4 (by omega)
    exact .inr ⟨p3, by omega, by omega, by omega, by omega, by omega⟩
  · have hz := hqs na (by omega)
    have hz2 := hqs (-nb) (by omega)
    rw [Int.mul_neg] at hz2
    have k1 := par_step (fb := fb) (nb := nb) (xa := xa) (yb := yb) (q := q)
    have k2 := par_step (fb := fa) (nb := na) (xa := xa) (yb := yb) (q := q)
    have hn : q * 1 ≤ q * (-nb) := Int.mul_le_mul_of_nonneg_left (by omega) (by omega)
    rw [Int.mul_neg] at hn
    exact .inl ⟨p3, by omega, by omega, by omega, by omega, by omega⟩

end Go.Proofs.YtennekieiioilaaGreat

namespace Go.Proofs.YtennekieiioilaaGreat
open Go.ChangeShapes Go.WideShapes Go.ChangeAt Go.RowKit
open Go.ChangeMaps (open_string shut_string)
set_option linter.unusedVariables false
set_option linter.unusedSimpArgs false

theorem MadeI.after {B : Nat} {L : List Int} {w w1 w2 : World} {e : Ending} (h : MadeI B L w1 e w2) (hb : Below w.heap.size w w1) : MadeI B L w e w2 := by
  obtain ⟨A, c, he, hc, ho, hb2⟩ := h
  exact ⟨A, c, he, hc, ho, bt hb hb2⟩
theorem MadeI.nil (B : Nat) (w : World) : MadeI B [] w (.returned (.slice none 0 0)) w := ⟨none, 0, rfl, Nat.le_refl _, .inl rfl, Below.refl _ _⟩
theorem below_g {w w1 w2 : World} {g : Nat} (h1 : Below w.heap.size w w1) (hg : w.heap.size ≤ g) (h : w1.grownBy w2 (some g)) : Below w.heap.size w w2 :=
  h1.trans (below_of_grown h h1.size (fun g' e => by injection e with e; omega))
/-- What came in lies in another block than what was made. -/
theorem RdS.apart {w : World} {A : Option Addr} {l : List Int} {g : Nat} (h : RdS w A (vi l)) (hg : w.heap.size ≤ g) : 0 < l.length → ∀ b o, A = some ⟨b, o, none⟩ → b ≠ g := by
  intro h0 b o e
  obtain ⟨b', o', ha, hb, _⟩ := h.block (by rw [vi_length]; exact h0)
  rw [e] at ha
  injection ha with ha
  injection ha with h1 h2
  omega
theorem copy_int (v : Nat) (A : Option Addr) (n c e : Nat) (x : Int) (w : World) (hx : x = (e : Int)) (hl : ln v = n) (hn : n ≤ 1048576) (he : e ≤ 1048576) (hA : RdS w A (vi (nd v))) :
    Calls Tryz.prog 84 #[.slice A n c, .int .i64 x] w fun q w' => ∃ g, w.heap.size ≤ g ∧ q = .returned (.slice (some ⟨g, 0, none⟩) (n + e) (n + e)) ∧ Blk w' g (row (n + e) v) ∧ Below w.heap.size w w' := by
  subst hx
  exact copy_any v A n c e w hl hn he hA
theorem sum_len {a b n n' e : Nat} (hn : ln a = n) (hn' : ln b = n') (he : n' + 1 ≤ n + e) (he0 : 1 ≤ e) : ln (a + b) ≤ n + e := by
  rw [ln_le_iff]
  have h1 := ln_lt a
  have h2 := ln_lt b
  rw [hn] at h1
  rw [hn'] at h2
  obtain ⟨M, hM⟩ : ∃ M, n + e = M + 1 := ⟨n + e - 1, by omega⟩
  have h3 := pw_le (show n ≤ M by omega)
  have h4 := pw_le (show n' ≤ M by omega)
  rw [hM, pw_succ]
  omega
theorem ln_lt' {v n : Nat} (h : ln v = n) : (v : Int) < pw n := by subst h; exact ln_lt v
theorem lay_lay {L : List Int} {off k : Nat} (T U : Int) (h : off + k ≤ L.length) : lay (lay L off T k) off U k = lay L off U k := by
  have hl := lay_length T h
  have h1 : (lay L off T k).take off = L.take off := by
    unfold lay
    rw [List.take_append_of_le_length (by simp; omega), List.take_take, Nat.min_self]
  have h2 : (lay L off T k).drop (off + k) = L.drop (off + k) := by
    have e : (L.take off ++ row k T).length = off + k := by simp [row_length]; omega
    unfold lay
    rw [← List.append_assoc, List.drop_append, List.drop_of_length_le (by omega), e, Nat.sub_self]
    simp
  show (lay L off T k).take off ++ (row k U ++ (lay L off T k).drop (off + k)) = _
  rw [h1, h2]
  rfl
/-- A change in the window of a row is a change of the whole. -/
theorem lay_row {N i k : Nat} {P Q x : Int} (hN : i + k ≤ N) (hQ : Q = P + x * pw i) (hP0 : 0 ≤ P) (hP : P < pw (i + k)) (hQ0 : 0 ≤ Q) (hQ' : Q < pw (i + k)) :
    lay (row N P) i (P / pw i + x) k = row N Q := by
  have hdiv : Q / pw i = P / pw i + x := by rw [hQ, Int.add_mul_ediv_right _ _ (pw_ne i)]
  have hmod : Q % pw i = P % pw i := by rw [hQ, Int.add_mul_emod_self_right]
  apply List.ext_getElem?
  intro j
  rcases Nat.lt_or_ge j i with h1 | h1
  · rw [lay_out _ (by rw [row_length]; exact hN) (.inl h1), row_get _ (by omega), row_get _ (by omega), dgt_congr hmod.symm h1]
  · obtain ⟨t, rfl⟩ := Nat.exists_eq_add_of_le h1
    rcases Nat.lt_or_ge t k with h2 | h2
    · rw [lay_in _ (by rw [row_length]; exact hN) h2, row_get _ (by omega), ← hdiv, dgt_shift]
    · rw [lay_out _ (by rw [row_length]; exact hN) (.inr (by omega))]
      rcases Nat.lt_or_ge (i + t) N with h3 | h3
      · rw [row_get _ h3, row_get _ h3, dgt_small hP0 hP (by omega), dgt_small hQ0 hQ' (by omega)]
      · rw [List.getElem?_eq_none (by rw [row_length]; exact h3), List.getElem?_eq_none (by rw [row_length]; exact h3)]

set_option maxHeartbeats 800000 in
theorem impl_add (a b : Nat) (A D : Option Addr) (n c n' d : Nat) (w : World) (hn : ln a = n) (hn' : ln b = n') (h60 : n ≤ 60) (h60' : n' ≤ 60) (hA : RdS w A (vi (nd a))) (hD : RdS w D (vi (nd b))) :
    Calls Tryz.prog 131 #[.slice A n c, .slice D n' d] w (MadeI w.heap.size (cap60 (a + b)) w) := by
  have H1 := are_any (nd a) (nd b) A D n c n' d w (by rw [nd_length, hn]) (by rw [nd_length, hn']) (by omega) (by omega) hA hD
  rw [nd_ok (by omega), nd_ok (by omega)] at H1
  obtain ⟨f, hfe⟩ : ∃ f, f = (n' - n) + 1 := ⟨_, rfl⟩
  have H2 := fun x hx => Lib.hid (copy_int a A n c f x w hx hn (by omega) (by omega) hA)
  have H3 := fun g (hg : w.heap.size ≤ g) (W : World) (hB : Blk W g (row (n + f) a)) (hb : Below w.heap.size w W) =>
    pass_any g 0 (n + f) (n + f) n' (row (n + f) a) a b 1 D (n + f) d W (row_length _ _) (by omega) (by omega) (by omega) (fun j hj => by rw [Nat.zero_add]; exact row_get _ hj) (by have := hD.below hb; rwa [nd, hn'] at this) (by omega) (ln_lt' hn')
      (by have := hD.apart hg; rwa [nd_length, hn'] at this) hB (by omega) (by omega)
  have hs := sum_len hn hn' (show n' + 1 ≤ n + f by omega) (by omega)
  have e1 : (a : Int) + 1 * (b : Int) = ((a + b : Nat) : Int) := by omega
  have H3' := Lib.hid H3
  have HS := Lib.hid hs
  have HE := Lib.hid hfe
  have hf60 : f ≤ 61 := by omega
  clear H3 hs hn hn' hfe
  rcases Nat.lt_or_ge n' n with hmx | hmx
  · have hmi : (n' : Int) - (n : Int) < 0 := by omega
    go_enter Tryz.func131, Tryz.ntmps131
    go_wp2_with fail
    refine H1.mono ?_
    rintro e w1 ⟨rfl, rfl⟩
    go_wp2_with fail
    refine (H2 _ (by have := HE.out; omega)).out.mono ?_
    rintro e w1 ⟨g, hg, rfl, hB1, hb1⟩
    go_wp2_with fail
    refine (H3'.out g hg w1 hB1 hb1).mono ?_
    rintro e w2 ⟨rfl, hB2, hg2⟩
    rw [lay_all _ _ (row_length _ _), e1] at hB2
    have hb2 := below_g hb1 hg hg2
    go_wp2_with fail
    refine (natOfRow_any w.heap.size g _ _ (a + b) w2 hg hB2 HS.out (Nat.le_refl _) (by omega) (by omega)).mono ?_
    intro e w3 hm
    have hm' := hm.after hb2
    obtain ⟨A', c', rfl, hc', ho, hb3⟩ := hm'
    go_wp2
    go_ret
    exact ⟨A', c', rfl, hc', ho, hb3⟩
  · have hmi : ¬ (n' : Int) - (n : Int) < 0 := by omega
    go_enter Tryz.func131, Tryz.ntmps131
    go_wp2_with fail
    refine H1.mono ?_
    rintro e w1 ⟨rfl, rfl⟩
    go_wp2_with fail
    refine (H2 _ (by have := HE.out; omega)).out.mono ?_
    rintro e w1 ⟨g, hg, rfl, hB1, hb1⟩
    go_wp2_with fail
    refine (H3'.out g hg w1 hB1 hb1).mono ?_
    rintro e w2 ⟨rfl, hB2, hg2⟩
    rw [lay_all _ _ (row_length _ _), e1] at hB2
    have hb2 := below_g hb1 hg hg2
    go_wp2_with fail
    refine (natOfRow_any w.heap.size g _ _ (a + b) w2 hg hB2 HS.out (Nat.le_refl _) (by omega) (by omega)).mono ?_
    intro e w3 hm
    have hm' := hm.after hb2
    obtain ⟨A', c', rfl, hc', ho, hb3⟩ := hm'
    go_wp2
    go_ret
    exact ⟨A', c', rfl, hc', ho, hb3⟩

set_option maxHeartbeats 800000 in
theorem impl_sub (a b : Nat) (A D : Option Addr) (n c n' d : Nat) (w : World) (hn : ln a = n) (hn' : ln b = n') (h60 : n ≤ 60) (h60' : n' ≤ 60) (hA : RdS w A (vi (nd a))) (hD : RdS w D (vi (nd b))) :
    Calls Tryz.prog 141 #[.slice A n c, .slice D n' d] w (MadeI w.heap.size (if b ≤ a then nd (a - b) else []) w) := by
  have H1 := are_any (nd a) (nd b) A D n c n' d w (by rw [nd_length, hn]) (by rw [nd_length, hn']) (by omega) (by omega) hA hD
  rw [nd_ok (by omega), nd_ok (by omega)] at H1
  have HC := Lib.hid (impl_cmp a b A D n c n' d w hn hn' (by omega) (by omega) hA hD)
  by_cases hba : b ≤ a
  · rw [if_pos hba]
    have hcm : 0 ≤ cmpN a b := by
      rcases Nat.lt_or_ge b a with h | h
      · rw [cmpN_gt h]; decide
      · rw [cmpN_eq (by omega)]; decide
    have H2 := fun W x hx hR => Lib.hid (copy_int a A n c 0 x W hx hn (by omega) (by omega) hR)
    have H3 := fun g (W0 W : World) (hR : RdS W0 D (vi (nd b))) (hg : W0.heap.size ≤ g) (hB : Blk W g (row (n + 0) a)) (hb : Below W0.heap.size W0 W) =>
      pass_any g 0 (n + 0) (n + 0) n' (row (n + 0) a) a b (-1) D (n + 0) d W (row_length _ _) (by omega) (by omega) (by omega) (fun j hj => by rw [Nat.zero_add]; exact row_get _ hj) (by have := hR.below hb; rwa [nd, hn'] at this) (by omega) (ln_lt' hn')
        (by have := hR.apart hg; rwa [nd_length, hn'] at this) hB (by omega) (by omega)
    have hs : ln (a - b) ≤ n + 0 := by have := ln_mono (show a - b ≤ a by omega); omega
    have e1 : (a : Int) + -1 * (b : Int) = ((a - b : Nat) : Int) := by omega
    have e2 : cap60 (a - b) = nd (a - b) := cap60_in (by omega)
    have H3' := Lib.hid H3
    have HS := Lib.hid hs
    have E2 := Lib.hid e2
    clear H3 hs hn hn' hba e2
    generalize cmpN a b = r at HC hcm
    go_enter Tryz.func141, Tryz.ntmps141
    go_wp2_with fail
    refine H1.mono ?_
    rintro e w1 ⟨rfl, rfl⟩
    go_wp2_with fail
    refine HC.out.mono ?_
    rintro e w0 ⟨rfl, hb0⟩
    go_wp2_with fail
    refine (H2 w0 _ (by omega) (hA.below hb0)).out.mono ?_
    rintro e w1 ⟨g, hg, rfl, hB1, hb1⟩
    go_wp2_with fail
    refine (H3'.out g w0 w1 (hD.below hb0) hg hB1 hb1).mono ?_
    rintro e w2 ⟨rfl, hB2, hg2⟩
    rw [lay_all _ _ (row_length _ _), e1] at hB2
    have hb2 := below_g hb1 hg hg2
    go_wp2_with fail
    refine (natOfRow_any w.heap.size g _ _ (a - b) w2 (Nat.le_trans hb0.size hg) hB2 HS.out (Nat.le_refl _) (by omega) (by omega)).mono ?_
    intro e w3 hm
    have hm' := hm.after (bt hb0 hb2)
    rw [E2.out] at hm'
    obtain ⟨A', c', rfl, hc', ho, hb3⟩ := hm'
    go_wp2
    go_ret
    exact ⟨A', c', rfl, hc', ho, hb3⟩
  · rw [if_neg hba]
    have hcm : cmpN a b = -1 := cmpN_lt (by omega)
    rw [hcm] at HC
    clear hn hn' hba hcm
    go_enter Tryz.func141, Tryz.ntmps141
    go_wp2_with fail
    refine H1.mono ?_
    rintro e w1 ⟨rfl, rfl⟩
    go_wp2_with fail
    refine HC.out.mono ?_
    rintro e w0 ⟨rfl, hb0⟩
    go_wp2
    go_ret
    exact (MadeI.nil w.heap.size w0).after hb0
end Go.Proofs.YtennekieiioilaaGreat

namespace Go.Proofs.YtennekieiioilaaGreat
open Go.ChangeShapes Go.WideShapes Go.ChangeAt Go.RowKit
open Go.ChangeMaps (open_string shut_string)
set_option linter.unusedVariables false
set_option linter.unusedSimpArgs false

/-- The product of the lowest i digits of a with b. -/
def part (a b : Int) (i : Nat) : Int := a % pw i * b
theorem part_zero (a b : Int) : part a b 0 = 0 := by unfold part; rw [mod_zero, Int.zero_mul]
theorem part_succ (a b : Int) (i : Nat) : part a b (i + 1) = part a b i + dgt a i * b * pw i := by
  unfold part
  rw [mod_succ, Int.add_mul, Int.mul_assoc, Int.mul_assoc, Int.mul_comm (pw i)]
theorem part_nonneg {a b : Int} (hb : 0 ≤ b) (i : Nat) : 0 ≤ part a b i := Int.mul_nonneg (mod_nonneg _ _) hb
theorem part_lt {a b : Int} {m : Nat} (hb : 0 ≤ b) (h : b < pw m) (i : Nat) : part a b i < pw (i + m) := by
  unfold part
  rw [pw_add]
  exact Int.lt_of_le_of_lt (Int.mul_le_mul_of_nonneg_left (Int.le_of_lt h) (mod_nonneg a i)) (Int.mul_lt_mul_of_pos_right (mod_lt a i) (pw_pos m))
theorem part_all {a b : Int} {n : Nat} (ha : 0 ≤ a) (h : a < pw n) : part a b n = a * b := by unfold part; rw [mod_self_of ha h]
theorem mul_len {a b n n' : Nat} (hn : ln a = n) (hn' : ln b = n') : ln (a * b) ≤ n + n' := by
  rw [ln_le_iff, pw_add, Int.natCast_mul]
  have h1 := ln_lt' hn
  have h2 := ln_lt' hn'
  exact Int.lt_of_le_of_lt (Int.mul_le_mul_of_nonneg_left (Int.le_of_lt h2) (by omega)) (Int.mul_lt_mul_of_pos_right h1 (pw_pos n'))

theorem window_int (g N i n : Nat) (x y : Int) (w : World) (hx : x = (i : Int)) (hy : y = (n : Int)) (hn : 0 < n) (hi : i + n ≤ N) (hc : N ≤ 1048576) :
    Calls Tryz.prog 124 #[.slice (some ⟨g, 0, none⟩) N N, .int .i64 x, .int .i64 y] w fun e w' => e = .returned (.slice (some ⟨g, i, none⟩) n n) ∧ w = w' := by
  subst hx
  subst hy
  have := window_any g 0 N N i n w hn hi hc (by omega) (Nat.le_refl _)
  rwa [Nat.zero_add] at this

set_option maxHeartbeats 400000 in
theorem impl_mul (a b : Nat) (A D : Option Addr) (n c n' d : Nat) (w : World) (hn : ln a = n) (hn' : ln b = n') (h60 : n ≤ 60) (h60' : n' ≤ 60) (hA : RdS w A (vi (nd a))) (hD : RdS w D (vi (nd b))) :
    Calls Tryz.prog 97 #[.slice A n c, .slice D n' d] w (MadeI w.heap.size (cap60 (a * b)) w) := by
  obtain ⟨i0, hi, hz0, hz1, hz2⟩ := info_parts int_info
  have H1 := are_any (nd a) (nd b) A D n c n' d w (by rw [nd_length, hn]) (by rw [nd_length, hn']) (by omega) (by omega) hA hD
  rw [nd_ok (by omega), nd_ok (by omega)] at H1
  have H3 := Lib.hid (fun i (hin : i < n) (W : World) (hB : Blk W w.heap.size (row (n + n') (part a b i))) (hb : Below w.heap.size w W) =>
    pass_any w.heap.size i (n' + 1) (n + n') n' (row (n + n') (part a b i)) (part a b i / pw i) b (dgt a i) D (n' + 1) d W (row_length _ _) (by omega) (by omega) (by omega) (fun j hj => by rw [row_get _ (by omega), dgt_shift]) (by have := hD.below hb; rwa [nd, hn'] at this) (by omega) (ln_lt' hn')
      (by have := hD.apart (Nat.le_refl _); rwa [nd_length, hn'] at this) hB (by have := dgt_nonneg a i; omega) (by have := dgt_lt a i; omega))
  have H4 := Lib.hid (fun i (hin : i < n) => lay_row (N := n + n') (i := i) (k := n' + 1) (P := part a b i) (Q := part a b (i + 1)) (x := dgt a i * b) (by omega) (part_succ _ _ _) (part_nonneg (by omega) _)
    (Int.lt_of_lt_of_le (part_lt (by omega) (ln_lt' hn') i) (pw_le (by omega))) (part_nonneg (by omega) _) (by have := part_lt (a := a) (by omega) (ln_lt' hn') (i + 1); rwa [show i + 1 + n' = i + (n' + 1) by omega] at this))
  have HS := Lib.hid (mul_len hn hn')
  have HP := Lib.hid (show part a b n = ((a * b : Nat) : Int) by rw [part_all (by omega) (ln_lt' hn), Int.natCast_mul])
  have HN := Lib.hid hn
  clear hn hn'
  go_enter Tryz.func97, Tryz.ntmps97
  go_wp2_with fail
  refine H1.mono ?_
  rintro e w1 ⟨rfl, rfl⟩
  go_wp2_with (first | (refine wpList_make_full _ rfl (.tmp 16) (.tmp 16) 26 rfl w.heap.size 3 i0 _ 1 Tryz.underlying26 hi hz0 hz1 .i64 .i64 ((n : Int) + (n' : Int)) ((n : Int) + (n' : Int)) (n + n') rfl rfl (by omega) (by omega) (by rw [hz2]; omega) (by simp only [maxLen]; omega) (Nat.le_refl _) ?_; intro w1 hown hg; refine cut_here ?_))
  have hb1 : Below w.heap.size w w1 := below_of_grown hg (Nat.le_refl _) (fun g h => by cases h)
  have hB := Blk.of_made hown (zeros (n + n'))
  rw [← part_zero a b] at hB
  clear hown hg
  refine Cut.of ?_
  go_wp2_with fail
  go_loopw [20] (fun i w' => ∃ k : Nat, k ≤ n ∧ i = .int .i64 (k : Int) ∧ Blk w' w.heap.size (row (n + n') (part a b k)) ∧ Below w.heap.size w w') (fun i _ => n - (intOf i).toNat)
  case atStart => exact ⟨0, Nat.zero_le _, rfl, hB, hb1⟩
  case round =>
    clear hB hb1
    obtain ⟨k, hk, rfl, hB, hb⟩ := hrel
    by_cases hlt : k < n
    · obtain ⟨b1, o1, rfl, hbl, e1⟩ := (hA.below hb).int (nd_get (v := a) (i := k) (by rw [HN.out]; exact hlt))
      have h3 := Lib.hid (H3.out k hlt wr hB hb)
      have h4 := Lib.hid (H4.out k hlt)
      generalize dgt a k = x at e1 h3 h4
      have hi0 : (0 : Int) ≤ (k : Int) := by omega
      have hi1 : (k : Int) < (n : Int) := by omega
      go_wp2_with fail
      refine (window_int w.heap.size (n + n') k (n' + 1) _ _ wr (by omega) (by omega) (by omega) (by omega) (by omega)).mono ?_
      rintro e w2 ⟨rfl, rfl⟩
      go_wp2_with fail
      refine h3.out.mono ?_
      rintro e w2 ⟨rfl, hB2, hg2⟩
      rw [h4.out] at hB2
      have hb2 := below_g hb (Nat.le_refl _) hg2
      go_wp2_with fail
      go_roundw
      case rel => exact ⟨k + 1, by omega, by go_num, hB2, hb2⟩
      case measure => simp [intOf]; omega
    · obtain rfl : k = n := by omega
      rw [HP.out] at hB
      go_wp2_with fail
      refine (natOfRow_any w.heap.size w.heap.size _ _ (a * b) wr (Nat.le_refl _) hB HS.out (Nat.le_refl _) (by omega) (by omega)).mono ?_
      intro e w3 hm
      have hm' := hm.after hb
      obtain ⟨A', c', rfl, hc', ho, hb3⟩ := hm'
      go_wp2
      go_ret
      exact ⟨A', c', rfl, hc', ho, hb3⟩
end Go.Proofs.YtennekieiioilaaGreat

namespace Go.Proofs.YtennekieiioilaaGreat
open Go.ChangeShapes Go.WideShapes Go.ChangeAt Go.RowKit
open Go.ChangeMaps (open_string shut_string)
set_option linter.unusedVariables false
set_option linter.unusedSimpArgs false

set_option maxHeartbeats 400000 in
theorem cap_any (B n c T : Nat) (A : Option Addr) (w : World) (ho : OwnS B w A (vi (row n T))) (hT : ln T ≤ n) (hc : n ≤ c) (hn : n ≤ 1048576) :
    Calls Tryz.prog 130 #[.slice A n c] w (MadeI B (cap60 T) w) := by
  have H := Lib.hid (trim_any B n c T A w ho hT hc hn)
  clear ho
  have hl : (nd T).length ≤ n := by rw [nd_length]; exact hT
  by_cases h60 : ln T ≤ 60
  · have hl60 : (nd T).length ≤ 60 := by rw [nd_length]; exact h60
    rw [cap60_in h60]
    clear hT h60
    generalize nd T = L at H hl hl60
    go_enter Tryz.func130, Tryz.ntmps130
    go_wp2_with fail
    refine H.out.mono ?_
    rintro e w1 ⟨A', c', rfl, hc', ho', hb'⟩
    go_wp2
    go_ret
    exact ⟨A', c', rfl, hc', ho', hb'⟩
  · have hl60 : 60 < (nd T).length := by rw [nd_length]; omega
    rw [cap60_out (by omega)]
    clear hT h60
    generalize nd T = L at H hl hl60
    go_enter Tryz.func130, Tryz.ntmps130
    go_wp2_with fail
    refine H.out.mono ?_
    rintro e w1 ⟨A', c', rfl, hc', ho', hb'⟩
    go_wp2
    go_ret
    exact (MadeI.nil B w1).after hb'
end Go.Proofs.YtennekieiioilaaGreat

namespace Go.Proofs.YtennekieiioilaaGreat
open Go.ChangeShapes Go.WideShapes Go.ChangeAt Go.RowKit
open Go.ChangeMaps (open_string shut_string)
set_option linter.unusedVariables false
set_option linter.unusedSimpArgs false

/-- A row of the call's own with the digits of T, zeros behind them let in. -/
def RowI (B T : Nat) (w : World) (e : Ending) (w' : World) : Prop :=
  ∃ A c K, e = .returned (.slice A K c) ∧ K ≤ c ∧ c ≤ maxLen ∧ K ≤ 1048576 ∧ ln T ≤ K ∧ OwnS B w' A (vi (row K T)) ∧ Below w.heap.size w w'
theorem row_own {B K T : Nat} {w w' : World} {v : Value} (h : w'.ownsRow B 3 1 v K (vi (row K T))) (hb : Below w.heap.size w w') (hK : K ≤ 1048576) (hT : ln T ≤ K) : RowI B T w (.returned v) w' := by
  obtain ⟨A, c, rfl, hc, hm, hl⟩ := own_len h
  exact ⟨A, c, K, rfl, hc, hm, hK, hT, OwnS.of_own h, hb⟩
theorem car_nonneg {v w f : Int} (hf : 0 ≤ f) (i : Nat) : 0 ≤ car v w f i :=
  Int.ediv_nonneg (Int.add_nonneg (mod_nonneg _ _) (Int.mul_nonneg hf (mod_nonneg _ _))) (Int.le_of_lt (pw_pos i))
theorem add_top {a b k n n' : Nat} (hn : ln a = n) (hn' : ln b = n') (h1 : n ≤ k) (h2 : n' ≤ k) : car a b 1 k = ((a + b : Nat) : Int) / pw k := by
  have h3 := ln_lt' hn
  have h4 := ln_lt' hn'
  rw [car_all (by omega) (Int.lt_of_lt_of_le h3 (pw_le h1)) (by omega) (Int.lt_of_lt_of_le h4 (pw_le h2))]
  congr 1
  omega
theorem add_more {a b k n n' M : Nat} (hn : ln a = n) (hn' : ln b = n') (h1 : n ≤ M) (h2 : n' ≤ M) (hk : k ≤ M + 1) (hnk : n ≤ k) (hnk' : n' ≤ k) (hc : 0 < car a b 1 k) : k < M + 1 := by
  rcases Nat.lt_or_ge k (M + 1) with h | h
  · exact h
  · rw [add_top hn hn' hnk hnk'] at hc
    have h3 := ln_lt' hn
    have h4 := ln_lt' hn'
    have h5 := pw_le h1
    have h6 := pw_le h2
    have h7 := pw_le h
    rw [pw_succ] at h7
    rw [div_small (by omega) (by omega)] at hc
    omega

set_option maxHeartbeats 1000000 in
theorem spec_l02Add (a b : Nat) (A D : Option Addr) (n c n' d : Nat) (w : World) (hn : ln a = n) (hn' : ln b = n') (h60 : n ≤ 60) (h60' : n' ≤ 60) (hA : RdS w A (vi (nd a))) (hD : RdS w D (vi (nd b))) :
    Calls Tryz.prog 132 #[.slice A n c, .slice D n' d] w (RowI w.heap.size (a + b) w) := by
  obtain ⟨M, h1M, h2M, hM⟩ : ∃ M, n ≤ M ∧ n' ≤ M ∧ M ≤ 60 := ⟨60, h60, h60', Nat.le_refl _⟩
  have hstart : (w.alloc (.cells #[] 3)).ownsRow w.heap.size 3 1 (.slice (some ⟨w.heap.size, 0, none⟩) 0 0) 0 (vi (row 0 ((a + b : Nat) : Int))) := World.ownsRow_made w #[] 0 (by omega) (by simp [maxLen]) rfl
  have HN := Lib.hid hn
  have HN' := Lib.hid hn'
  have E1 : Hid ((a : Int) + 1 * (b : Int) = ((a + b : Nat) : Int)) := Lib.hid (by omega)
  clear hn hn'
  go_enter Tryz.func132, Tryz.ntmps132
  go_wp2
  go_loopw [5, 6, 7] (fun v q i w' => ∃ (k : Nat) (x : Int), k ≤ M + 1 ∧ i = .int .i64 (k : Int) ∧ q = .int .i64 x ∧ x = car a b 1 k ∧ w'.ownsRow w.heap.size 3 1 v k (vi (row k ((a + b : Nat) : Int))) ∧ Below w.heap.size w w') (fun _ _ i _ => M + 1 - (intOf i).toNat)
  case atStart => exact ⟨0, 0, Nat.zero_le _, rfl, rfl, (car_zero _ _ _).symm, hstart, (Below.refl _ _).alloc (Nat.le_refl _) _⟩
  case round =>
    clear hstart
    obtain ⟨k, x, hk, rfl, rfl, hx, hown, hb⟩ := hrel
    have hx0 := car_nonneg (v := a) (w := b) (show (0 : Int) ≤ 1 by decide) k
    have hx1 := (car_bound (v := a) (w := b) (f := 1) (by decide) (by decide) k).2
    rw [← hx] at hx0 hx1
    have hcs : Hid (car a b 1 (k + 1) = (x + dgt a k + dgt b k) / 1000000000) := Lib.hid (by rw [car_succ, ← hx, Int.one_mul])
    have hds : Hid (dgt ((a + b : Nat) : Int) k = (x + dgt a k + dgt b k) % 1000000000) := Lib.hid (by rw [← E1.out, dgt_pass, ← hx, Int.one_mul])
    have hX := Lib.hid hx
    clear hx
    have hi0 : (0 : Int) ≤ (k : Int) := by omega
    have hd0 := dgt_nonneg a k
    have hd1 := dgt_lt a k
    have hz0 := dgt_nonneg b k
    have hz1 := dgt_lt b k
    by_cases hka : k < n
    · obtain ⟨b1, o1, rfl, hb1, e1⟩ := (hA.below hb).int (nd_get (v := a) (i := k) (by rw [HN.out]; exact hka))
      have hia : (k : Int) < (n : Int) := by omega
      generalize dgt a k = y at e1 hd0 hd1 hcs hds
      by_cases hkb : k < n'
      · obtain ⟨b2, o2, rfl, hb2, e2⟩ := (hD.below hb).int (nd_get (v := b) (i := k) (by rw [HN'.out]; exact hkb))
        have hib : (k : Int) < (n' : Int) := by omega
        generalize dgt b k = z at e2 hz0 hz1 hcs hds
        have hs0 : 0 ≤ x + y + z := by omega
        go_wp2_with (at_builtin; refine append_int rfl (.tmp 47) (.tmp 50) rfl w.heap.size _ _ (row k ((a + b : Nat) : Int)) ((x + y + z) % 1000000000) wr rfl rfl hown (by omega) hb.size ?_; intro v' w1 hown1 hb1 hs1)
        go_roundw
        case rel => exact ⟨k + 1, _, by omega, by go_num, rfl, hcs.out.symm, by rw [row_succ, hds.out]; exact hown1, hb.trans hb1⟩
        case measure => simp [intOf]; omega
      · have hzz : dgt b k = 0 := dgt_small (n := n') (by omega) (ln_lt' HN'.out) (by omega)
        rw [hzz, Int.add_zero] at hcs hds
        clear hzz hz0 hz1
        have hib : ¬ (k : Int) < (n' : Int) := by omega
        have hs0 : 0 ≤ x + y := by omega
        go_wp2_with (at_builtin; refine append_int rfl (.tmp 47) (.tmp 50) rfl w.heap.size _ _ (row k ((a + b : Nat) : Int)) ((x + y) % 1000000000) wr rfl rfl hown (by omega) hb.size ?_; intro v' w1 hown1 hb1 hs1)
        go_roundw
        case rel => exact ⟨k + 1, _, by omega, by go_num, rfl, hcs.out.symm, by rw [row_succ, hds.out]; exact hown1, hb.trans hb1⟩
        case measure => simp [intOf]; omega
    · have hyy : dgt a k = 0 := dgt_small (n := n) (by omega) (ln_lt' HN.out) (by omega)
      rw [hyy, Int.add_zero] at hcs hds
      clear hyy hd0 hd1
      have hia : ¬ (k : Int) < (n : Int) := by omega
      by_cases hkb : k < n'
      · obtain ⟨b2, o2, rfl, hb2, e2⟩ := (hD.below hb).int (nd_get (v := b) (i := k) (by rw [HN'.out]; exact hkb))
        have hib : (k : Int) < (n' : Int) := by omega
        generalize dgt b k = z at e2 hz0 hz1 hcs hds
        have hs0 : 0 ≤ x + z := by omega
        go_wp2_with (at_builtin; refine append_int rfl (.tmp 47) (.tmp 50) rfl w.heap.size _ _ (row k ((a + b : Nat) : Int)) ((x + z) % 1000000000) wr rfl rfl hown (by omega) hb.size ?_; intro v' w1 hown1 hb1 hs1)
        go_roundw
        case rel => exact ⟨k + 1, _, by omega, by go_num, rfl, hcs.out.symm, by rw [row_succ, hds.out]; exact hown1, hb.trans hb1⟩
        case measure => simp [intOf]; omega
      · have hzz : dgt b k = 0 := dgt_small (n := n') (by omega) (ln_lt' HN'.out) (by omega)
        rw [hzz, Int.add_zero] at hcs hds
        clear hzz hz0 hz1
        have hib : ¬ (k : Int) < (n' : Int) := by omega
        by_cases hpos : 0 < x
        · have hkM : k < M + 1 := add_more HN.out HN'.out h1M h2M hk (by omega) (by omega) (by rw [← hX.out]; exact hpos)
          go_wp2_with (at_builtin; refine append_int rfl (.tmp 47) (.tmp 50) rfl w.heap.size _ _ (row k ((a + b : Nat) : Int)) (x % 1000000000) wr rfl rfl hown (by omega) hb.size ?_; intro v' w1 hown1 hb1 hs1)
          go_roundw
          case rel => exact ⟨k + 1, _, by omega, by go_num, rfl, hcs.out.symm, by rw [row_succ, hds.out]; exact hown1, hb.trans hb1⟩
          case measure => simp [intOf]; omega
        · obtain rfl : x = 0 := by omega
          have hfin : Hid (ln (a + b) ≤ k) := by
            refine Lib.hid (ln_le_iff.2 ?_)
            have h1 := hX.out
            rw [add_top HN.out HN'.out (by omega) (by omega)] at h1
            have h2 := Int.mul_ediv_add_emod ((a + b : Nat) : Int) (pw k)
            have h3 := mod_lt ((a + b : Nat) : Int) k
            rw [← h1, Int.mul_zero] at h2
            omega
          go_wp2
          go_ret
          exact row_own hown hb (by omega) hfin.out
end Go.Proofs.YtennekieiioilaaGreat

namespace Go.Proofs.YtennekieiioilaaGreat
open Go.ChangeShapes Go.WideShapes Go.ChangeAt Go.RowKit
open Go.ChangeMaps (open_string shut_string)
set_option linter.unusedVariables false
set_option linter.unusedSimpArgs false

set_option maxHeartbeats 1000000 in
theorem spec_l02Sub (a b : Nat) (A D : Option Addr) (n c n' d : Nat) (w : World) (hn : ln a = n) (hn' : ln b = n') (hba : b ≤ a) (h60 : n ≤ 1048576) (h60' : n' ≤ 1048576) (hA : RdS w A (vi (nd a))) (hD : RdS w D (vi (nd b))) :
    Calls Tryz.prog 134 #[.slice A n c, .slice D n' d] w (MadeI w.heap.size (nd (a - b)) w) := by
  have hstart : (w.alloc (.cells #[] 3)).ownsRow w.heap.size 3 1 (.slice (some ⟨w.heap.size, 0, none⟩) 0 0) 0 (vi (row 0 ((a - b : Nat) : Int))) := World.ownsRow_made w #[] 0 (by omega) (by simp [maxLen]) rfl
  have HN := Lib.hid hn
  have HN' := Lib.hid hn'
  have E1 : Hid ((a : Int) + (-1) * (b : Int) = ((a - b : Nat) : Int)) := Lib.hid (by omega)
  have HL : Hid (ln (a - b) ≤ n) := Lib.hid (by have := ln_mono (show a - b ≤ a by omega); omega)
  clear hn hn' hba
  go_enter Tryz.func134, Tryz.ntmps134
  go_wp2
  go_loopw [5, 6, 12] (fun v q i w' => ∃ (k : Nat) (x : Int), k ≤ n ∧ i = .int .i64 (k : Int) ∧ q = .int .i64 x ∧ x = - car a b (-1) k ∧ 0 ≤ x ∧ x ≤ 1 ∧ w'.ownsRow w.heap.size 3 1 v k (vi (row k ((a - b : Nat) : Int))) ∧ Below w.heap.size w w') (fun _ _ i _ => n - (intOf i).toNat)
  case atStart => exact ⟨0, 0, Nat.zero_le _, rfl, rfl, by rw [car_zero]; rfl, by omega, by omega, hstart, (Below.refl _ _).alloc (Nat.le_refl _) _⟩
  case round =>
    clear hstart
    obtain ⟨k, x, hk, rfl, rfl, hx, hx0, hx1, hown, hb⟩ := hrel
    have hcs : Hid (car a b (-1) (k + 1) = (dgt a k - x - dgt b k) / 1000000000) := Lib.hid (by rw [car_succ]; congr 1; omega)
    have hds : Hid (dgt ((a - b : Nat) : Int) k = (dgt a k - x - dgt b k) % 1000000000) := Lib.hid (by rw [← E1.out, dgt_pass]; congr 1; omega)
    clear hx
    have hi0 : (0 : Int) ≤ (k : Int) := by omega
    have hd0 := dgt_nonneg a k
    have hd1 := dgt_lt a k
    have hz0 := dgt_nonneg b k
    have hz1 := dgt_lt b k
    by_cases hka : k < n
    · obtain ⟨b1, o1, rfl, hb1, e1⟩ := (hA.below hb).int (nd_get (v := a) (i := k) (by rw [HN.out]; exact hka))
      have hia : (k : Int) < (n : Int) := by omega
      generalize dgt a k = y at e1 hd0 hd1 hcs hds
      by_cases hkb : k < n'
      · obtain ⟨b2, o2, rfl, hb2, e2⟩ := (hD.below hb).int (nd_get (v := b) (i := k) (by rw [HN'.out]; exact hkb))
        have hib : (k : Int) < (n' : Int) := by omega
        generalize dgt b k = z at e2 hz0 hz1 hcs hds
        by_cases hs0 : y - x - z < 0
        · go_wp2_with (at_builtin; refine append_int rfl (.tmp 35) (.tmp 37) rfl w.heap.size _ _ (row k ((a - b : Nat) : Int)) (y - x - z + 1000000000) wr rfl rfl hown (by omega) hb.size ?_; intro v' w1 hown1 hb1 hs1)
          go_roundw
          case rel => exact ⟨k + 1, 1, by omega, by go_num, rfl, by rw [hcs.out]; omega, by omega, by omega, by rw [row_succ, hds.out, show (y - x - z) % 1000000000 = y - x - z + 1000000000 by omega]; exact hown1, hb.trans hb1⟩
          case measure => simp [intOf]; omega
        · have hs0' : 0 ≤ y - x - z := by omega
          go_wp2_with (at_builtin; refine append_int rfl (.tmp 35) (.tmp 37) rfl w.heap.size _ _ (row k ((a - b : Nat) : Int)) (y - x - z) wr rfl rfl hown (by omega) hb.size ?_; intro v' w1 hown1 hb1 hs1)
          go_roundw
          case rel => exact ⟨k + 1, 0, by omega, by go_num, rfl, by rw [hcs.out]; omega, by omega, by omega, by rw [row_succ, hds.out, show (y - x - z) % 1000000000 = y - x - z by omega]; exact hown1, hb.trans hb1⟩
          case measure => simp [intOf]; omega
      · have hzz : dgt b k = 0 := dgt_small (n := n') (by omega) (ln_lt' HN'.out) (by omega)
        rw [hzz, Int.sub_zero] at hcs hds
        clear hzz hz0 hz1
        have hib : ¬ (k : Int) < (n' : Int) := by omega
        by_cases hs0 : y - x < 0
        · go_wp2_with (at_builtin; refine append_int rfl (.tmp 35) (.tmp 37) rfl w.heap.size _ _ (row k ((a - b : Nat) : Int)) (y - x + 1000000000) wr rfl rfl hown (by omega) hb.size ?_; intro v' w1 hown1 hb1 hs1)
          go_roundw
          case rel => exact ⟨k + 1, 1, by omega, by go_num, rfl, by rw [hcs.out]; omega, by omega, by omega, by rw [row_succ, hds.out, show (y - x) % 1000000000 = y - x + 1000000000 by omega]; exact hown1, hb.trans hb1⟩
          case measure => simp [intOf]; omega
        · have hs0' : 0 ≤ y - x := by omega
          go_wp2_with (at_builtin; refine append_int rfl (.tmp 35) (.tmp 37) rfl w.heap.size _ _ (row k ((a - b : Nat) : Int)) (y - x) wr rfl rfl hown (by omega) hb.size ?_; intro v' w1 hown1 hb1 hs1)
          go_roundw
          case rel => exact ⟨k + 1, 0, by omega, by go_num, rfl, by rw [hcs.out]; omega, by omega, by omega, by rw [row_succ, hds.out, show (y - x) % 1000000000 = y - x by omega]; exact hown1, hb.trans hb1⟩
          case measure => simp [intOf]; omega
    · obtain rfl : k = n := by omega
      obtain ⟨A', c', hv, hc', hm', hl'⟩ := own_len hown
      have ho := OwnS.of_own (A := A') (n := k) (c := c') (by rw [← hv]; exact hown)
      subst hv
      clear hown
      go_wp2_with fail
      refine (trim_any w.heap.size k c' (a - b) A' wr ho HL.out hc' h60).mono ?_
      intro e w3 hm
      obtain ⟨A2, c2, rfl, hc2, ho2, hb2⟩ := hm.after hb
      go_wp2
      go_ret
      exact ⟨A2, c2, rfl, hc2, ho2, hb2⟩
end Go.Proofs.YtennekieiioilaaGreat

namespace Go.Proofs.YtennekieiioilaaGreat
open Go.ChangeShapes Go.WideShapes Go.ChangeAt Go.RowKit
open Go.ChangeMaps (open_string shut_string)
set_option linter.unusedVariables false
set_option linter.unusedSimpArgs false
set_option maxRecDepth 4000

theorem last_digit {P b x : Int} {k m : Nat} (hb0 : 0 ≤ b) (hb : b < pw m) (hP0 : 0 ≤ P / pw k) (hP : P / pw k < pw m) (hx0 : 0 ≤ x) (hT : P / pw k + x * b < pw (m + 1)) :
    car (P / pw k) b x m = dgt (P / pw k + x * b) m := by
  rw [car_all hP0 hP hb0 hb]
  unfold dgt
  rw [pw_succ] at hT
  have h0 : 0 ≤ P / pw k + x * b := Int.add_nonneg hP0 (Int.mul_nonneg hx0 hb0)
  have h1 := Int.ediv_nonneg h0 (Int.le_of_lt (pw_pos m))
  have h2 := Int.ediv_lt_of_lt_mul (pw_pos m) (show P / pw k + x * b < 1000000000 * pw m by rw [Int.mul_comm 1000000000]; exact hT)
  omega

set_option maxHeartbeats 1000000 in
theorem spec_l02Mul (a b : Nat) (A D : Option Addr) (n c n' d : Nat) (w : World) (hn : ln a = n) (hn' : ln b = n') (h60 : n ≤ 1000) (h60' : n' ≤ 1000) (hA : RdS w A (vi (nd a))) (hD : RdS w D (vi (nd b))) :
    Calls Tryz.prog 114 #[.slice A n c, .slice D n' d] w (MadeI w.heap.size (nd (a * b)) w) := by
  obtain ⟨i0, hi, hz0, hz1, hz2⟩ := info_parts int_info
  by_cases hza : n = 0
  · have hc : Hid (nd (a * b) = []) := Lib.hid (by rw [show a = 0 from ln_eq_zero.1 (by omega), Nat.zero_mul, nd_zero])
    subst hza
    clear hn hn'
    go_enter Tryz.func114, Tryz.ntmps114
    go_wp2
    go_ret
    rw [hc.out]
    exact MadeI.nil _ _
  · by_cases hzb : n' = 0
    · have hc : Hid (nd (a * b) = []) := Lib.hid (by rw [show b = 0 from ln_eq_zero.1 (by omega), Nat.mul_zero, nd_zero])
      have q : ((n : Int) == 0) = false := by rw [beq_eq_false_iff_ne]; omega
      subst hzb
      clear hn hn' hza
      go_enter Tryz.func114, Tryz.ntmps114
      go_wp2
      go_ret
      rw [hc.out]
      exact MadeI.nil _ _
    · have q : ((n : Int) == 0) = false := by rw [beq_eq_false_iff_ne]; omega
      have q' : ((n' : Int) == 0) = false := by rw [beq_eq_false_iff_ne]; omega
      have H4 := Lib.hid (fun i (hin : i < n) => lay_row (N := n + n') (i := i) (k := n' + 1) (P := part a b i) (Q := part a b (i + 1)) (x := dgt a i * b) (by omega) (part_succ _ _ _) (part_nonneg (by omega) _)
        (Int.lt_of_lt_of_le (part_lt (by omega) (ln_lt' hn') i) (pw_le (by omega))) (part_nonneg (by omega) _) (by have := part_lt (a := a) (by omega) (ln_lt' hn') (i + 1); rwa [show i + 1 + n' = i + (n' + 1) by omega] at this))
      have H5 : Hid (∀ i, i < n → car (part a b i / pw i) b (dgt a i) n' = dgt (part a b i / pw i + dgt a i * b) n') := by
        refine Lib.hid (fun i hin => last_digit (by omega) (ln_lt' hn') (Int.ediv_nonneg (part_nonneg (by omega) _) (Int.le_of_lt (pw_pos i))) ?_ (dgt_nonneg _ _) ?_)
        · have := part_lt (a := a) (by omega) (ln_lt' hn') i
          rw [pw_add, Int.mul_comm] at this
          exact Int.ediv_lt_of_lt_mul (pw_pos i) this
        · have h1 := part_lt (a := a) (by omega) (ln_lt' hn') (i + 1)
          rw [part_succ, show i + 1 + n' = i + (n' + 1) by omega, pw_add] at h1
          have h2 : (part a b i + dgt a i * b * pw i) / pw i = part a b i / pw i + dgt a i * b := Int.add_mul_ediv_right _ _ (pw_ne i)
          rw [← h2]
          rw [Int.mul_comm (pw i) (pw (n' + 1))] at h1
          exact Int.ediv_lt_of_lt_mul (pw_pos i) h1
      have HS := Lib.hid (mul_len hn hn')
      have HP := Lib.hid (show part a b n = ((a * b : Nat) : Int) by rw [part_all (by omega) (ln_lt' hn), Int.natCast_mul])
      have HN := Lib.hid hn
      have HN' := Lib.hid hn'
      clear hn hn' hza hzb
      go_enter Tryz.func114, Tryz.ntmps114
      go_wp2_with (first | (refine wpList_make_full _ rfl (.tmp 24) (.tmp 24) 26 rfl w.heap.size 3 i0 _ 1 Tryz.underlying26 hi hz0 hz1 .i64 .i64 ((n : Int) + (n' : Int)) ((n : Int) + (n' : Int)) (n + n') rfl rfl (by omega) (by omega) (by rw [hz2]; omega) (by simp only [maxLen]; omega) (Nat.le_refl _) ?_; intro w1 hown hg; refine cut_here ?_))
      have hb1 : Below w.heap.size w w1 := below_of_grown hg (Nat.le_refl _) (fun g h => by cases h)
      have hB := Blk.of_made hown (zeros (n + n'))
      rw [← part_zero a b] at hB
      clear hown hg
      refine Cut.of ?_
      go_wp2_with fail
      go_loopw [28] (fun i w' => ∃ k : Nat, k ≤ n ∧ i = .int .i64 (k : Int) ∧ Blk w' w.heap.size (row (n + n') (part a b k)) ∧ Below w.heap.size w w') (fun i _ => n - (intOf i).toNat)
      case atStart => exact ⟨0, Nat.zero_le _, rfl, hB, hb1⟩
      case round =>
        clear hB hb1
        obtain ⟨k, hk, rfl, hB, hb⟩ := hrel
        by_cases hlt : k < n
        · obtain ⟨b1, o1, rfl, hbl, e1⟩ := (hA.below hb).int (nd_get (v := a) (i := k) (by rw [HN.out]; exact hlt))
          have h4 := Lib.hid (H4.out k hlt)
          have h5 := Lib.hid (H5.out k hlt)
          have hx0 := dgt_nonneg a k
          have hx1 := dgt_lt a k
          obtain ⟨P, hPP⟩ : ∃ P, P = part a b k := ⟨_, rfl⟩
          obtain ⟨Q, hQQ⟩ : ∃ Q, Q = part a b (k + 1) := ⟨_, rfl⟩
          rw [← hPP, ← hQQ] at h4
          rw [← hPP] at h5 hB
          have HQ := Lib.hid hQQ
          clear hPP hQQ
          generalize dgt a k = x at e1 h4 h5 hx0 hx1
          have hi0 : (0 : Int) ≤ (k : Int) := by omega
          have hi1 : (k : Int) < (n : Int) := by omega
          go_wp2_with fail
          go_loopw [8, 35] (fun q i w' => ∃ (j : Nat) (y : Int), j ≤ n' ∧ i = .int .i64 (j : Int) ∧ q = .int .i64 y ∧ y = car (P / pw k) b x j ∧ Blk w' w.heap.size (lay (row (n + n') P) k (P / pw k + x * b) j) ∧ Below w.heap.size w w') (fun _ i _ => n' - (intOf i).toNat)
          case atStart => exact ⟨0, 0, Nat.zero_le _, rfl, rfl, (car_zero _ _ _).symm, by rw [lay_zero]; exact hB, hb⟩
          case round =>
            clear hB hb e1 hbl
            obtain ⟨j, y, hj, rfl, rfl, hy, hB, hb⟩ := hrel
            have hy0 := car_nonneg (v := P / pw k) (w := b) hx0 j
            have hy1 := (car_bound (v := P / pw k) (w := b) (f := x) (by omega) (by omega) j).2
            rw [← hy] at hy0 hy1
            by_cases hjl : j < n'
            · obtain ⟨b2, o2, rfl, hbl2, e2⟩ := (hD.below hb).int (nd_get (v := b) (i := j) (by rw [HN'.out]; exact hjl))
              have hat : (lay (row (n + n') P) k (P / pw k + x * b) j)[k + j]? = some (dgt (P / pw k) j) := by
                rw [lay_at _ (by rw [row_length]; omega), row_get _ (by omega), dgt_shift]
              have hc1 := hB.cell hat
              have hf1 := hB.free (k + j)
              have hcs : Hid (car (P / pw k) b x (j + 1) = (dgt (P / pw k) j + x * dgt b j + y) / 1000000000) := Lib.hid (by rw [car_succ, ← hy]; congr 1; omega)
              have hds : Hid (dgt (P / pw k + x * b) j = (dgt (P / pw k) j + x * dgt b j + y) % 1000000000) := Lib.hid (by rw [dgt_pass, ← hy]; congr 1; omega)
              have hp0 := dgt_nonneg (P / pw k) j
              have hp1 := dgt_lt (P / pw k) j
              have hm0 := Int.mul_nonneg hx0 (dgt_nonneg b j)
              have hm1 := (prod_bound (w := b) (f := x) (by omega) (by omega) j).2
              clear hy hat
              generalize dgt b j = z at e2 hcs hds hm0 hm1
              generalize dgt (P / pw k) j = p at hc1 hcs hds hp0 hp1
              have hs0 : 0 ≤ p + x * z + y := by omega
              have hj0 : (0 : Int) ≤ (j : Int) := by omega
              have hj1 : (j : Int) < (n' : Int) := by omega
              have hkj : (k : Int) + (j : Int) < (n : Int) + (n' : Int) := by omega
              have hkt : ((k : Int) + (j : Int)).toNat = k + j := by omega
              go_wp2
              go_roundw
              case rel => exact ⟨j + 1, _, by omega, by go_num, rfl, hcs.out.symm, hB.lay1 (by rw [row_length]; omega) hds.out.symm, hb.setCell (Nat.le_refl _) _⟩
              case measure => simp [intOf]; omega
            · obtain rfl : j = n' := by omega
              have hy' := Lib.hid (hy.trans h5.out)
              have hf1 := hB.free (k + j)
              have hat : ∃ u, (lay (row (n + j) P) k (P / pw k + x * b) j)[k + j]? = some u := by
                rw [lay_at _ (by rw [row_length]; omega), row_get _ (by omega)]
                exact ⟨_, rfl⟩
              obtain ⟨u, hu⟩ := hat
              have hc1 := hB.cell hu
              have hkj : (k : Int) + (j : Int) < (n : Int) + (j : Int) := by omega
              have hkt : ((k : Int) + (j : Int)).toNat = k + j := by omega
              clear hy hu
              go_wp2
              go_roundw
              case rel => exact ⟨k + 1, by omega, by go_num, by rw [← HQ.out, ← h4.out]; exact hB.lay1 (by rw [row_length]; omega) hy'.out, hb.setCell (Nat.le_refl _) _⟩
              case measure => simp [intOf]; omega
        · obtain rfl : k = n := by omega
          rw [HP.out] at hB
          go_wp2_with fail
          refine (trim_any w.heap.size _ _ (a * b) _ wr (hB.own (Nat.le_refl _)) HS.out (Nat.le_refl _) (by omega)).mono ?_
          intro e w3 hm
          obtain ⟨A', c', rfl, hc', ho, hb3⟩ := hm.after hb
          go_wp2
          go_ret
          exact ⟨A', c', rfl, hc', ho, hb3⟩
end Go.Proofs.YtennekieiioilaaGreat

namespace Go.Proofs.YtennekieiioilaaGreat
open Go.ChangeShapes Go.WideShapes Go.ChangeAt Go.RowKit
open Go.ChangeMaps (open_string shut_string)
set_option linter.unusedVariables false
set_option linter.unusedSimpArgs false

/-- What an operation on two lists answers. -/
def binL (F : Nat → Nat → List Int) (l m : List Int) : List Int := if ok l && ok m then F (val l) (val m) else []
def addF (a b : Nat) : List Int := cap60 (a + b)
def subF (a b : Nat) : List Int := if b ≤ a then nd (a - b) else []
def mulF (a b : Nat) : List Int := cap60 (a * b)
theorem cap60_len (v : Nat) : (cap60 v).length ≤ 60 := by
  unfold cap60
  split
  · rw [nd_length]; assumption
  · simp
theorem binL_len {F : Nat → Nat → List Int} (h : ∀ a b, ln a ≤ 60 → ln b ≤ 60 → (F a b).length ≤ 60) (l m : List Int) : (binL F l m).length ≤ 60 := by
  unfold binL
  split
  · rename_i hk
    rw [Bool.and_eq_true] at hk
    obtain ⟨a, rfl, ha⟩ := ok_nd hk.1
    obtain ⟨b, rfl, hb⟩ := ok_nd hk.2
    rw [val_nd, val_nd]
    exact h a b ha hb
  · simp
theorem subF_len (a b : Nat) (h : ln a ≤ 60) : (subF a b).length ≤ 60 := by
  unfold subF
  split
  · rw [nd_length]
    have := ln_mono (show a - b ≤ a by omega)
    omega
  · simp

section
variable (l m : List Int) (A D : Option Addr) (n c n' d : Nat) (w : World)

theorem impl_addL (hl : l.length = n) (hm : m.length = n') (hn : n ≤ 9223372036854775807) (hn' : n' ≤ 9223372036854775807) (hA : RdS w A (vi l)) (hD : RdS w D (vi m)) :
    Calls Tryz.prog 131 #[.slice A n c, .slice D n' d] w (MadeI w.heap.size (binL addF l m) w) := by
  by_cases h : (ok l && ok m) = true
  · have hc : binL addF l m = addF (val l) (val m) := by unfold binL; rw [h]; rfl
    rw [Bool.and_eq_true] at h
    obtain ⟨a, rfl, ha⟩ := ok_nd h.1
    obtain ⟨b, rfl, hb⟩ := ok_nd h.2
    rw [val_nd, val_nd] at hc
    rw [hc]
    rw [nd_length] at hl hm
    exact impl_add a b A D n c n' d w hl hm (by omega) (by omega) hA hD
  · have h' : (ok l && ok m) = false := by simpa using h
    have H1 := are_any l m A D n c n' d w hl hm hn hn' hA hD
    rw [h'] at H1
    have hc : binL addF l m = [] := by unfold binL; rw [h']; rfl
    rw [hc]
    clear h h' hl hm hc
    go_enter Tryz.func131, Tryz.ntmps131
    go_wp2_with fail
    refine H1.mono ?_
    rintro e w1 ⟨rfl, rfl⟩
    go_wp2
    go_ret
    exact MadeI.nil _ _

theorem impl_subL (hl : l.length = n) (hm : m.length = n') (hn : n ≤ 9223372036854775807) (hn' : n' ≤ 9223372036854775807) (hA : RdS w A (vi l)) (hD : RdS w D (vi m)) :
    Calls Tryz.prog 141 #[.slice A n c, .slice D n' d] w (MadeI w.heap.size (binL subF l m) w) := by
  by_cases h : (ok l && ok m) = true
  · have hc : binL subF l m = subF (val l) (val m) := by unfold binL; rw [h]; rfl
    rw [Bool.and_eq_true] at h
    obtain ⟨a, rfl, ha⟩ := ok_nd h.1
    obtain ⟨b, rfl, hb⟩ := ok_nd h.2
    rw [val_nd, val_nd] at hc
    rw [hc]
    rw [nd_length] at hl hm
    exact impl_sub a b A D n c n' d w hl hm (by omega) (by omega) hA hD
  · have h' : (ok l && ok m) = false := by simpa using h
    have H1 := are_any l m A D n c n' d w hl hm hn hn' hA hD
    rw [h'] at H1
    have hc : binL subF l m = [] := by unfold binL; rw [h']; rfl
    rw [hc]
    clear h h' hl hm hc
    go_enter Tryz.func141, Tryz.ntmps141
    go_wp2_with fail
    refine H1.mono ?_
    rintro e w1 ⟨rfl, rfl⟩
    go_wp2
    go_ret
    exact MadeI.nil _ _

theorem impl_mulL (hl : l.length = n) (hm : m.length = n') (hn : n ≤ 9223372036854775807) (hn' : n' ≤ 9223372036854775807) (hA : RdS w A (vi l)) (hD : RdS w D (vi m)) :
    Calls Tryz.prog 97 #[.slice A n c, .slice D n' d] w (MadeI w.heap.size (binL mulF l m) w) := by
  by_cases h : (ok l && ok m) = true
  · have hc : binL mulF l m = mulF (val l) (val m) := by unfold binL; rw [h]; rfl
    rw [Bool.and_eq_true] at h
    obtain ⟨a, rfl, ha⟩ := ok_nd h.1
    obtain ⟨b, rfl, hb⟩ := ok_nd h.2
    rw [val_nd, val_nd] at hc
    rw [hc]
    rw [nd_length] at hl hm
    exact impl_mul a b A D n c n' d w hl hm (by omega) (by omega) hA hD
  · have h' : (ok l && ok m) = false := by simpa using h
    have H1 := are_any l m A D n c n' d w hl hm hn hn' hA hD
    rw [h'] at H1
    have hc : binL mulF l m = [] := by unfold binL; rw [h']; rfl
    rw [hc]
    clear h h' hl hm hc
    go_enter Tryz.func97, Tryz.ntmps97
    go_wp2_with fail
    refine H1.mono ?_
    rintro e w1 ⟨rfl, rfl⟩
    go_wp2
    go_ret
    exact MadeI.nil _ _

end
end Go.Proofs.YtennekieiioilaaGreat

namespace Go.Proofs.YtennekieiioilaaGreat
open Go.ChangeShapes Go.WideShapes Go.ChangeAt Go.RowKit
open Go.ChangeMaps (open_string shut_string)
set_option linter.unusedVariables false
set_option linter.unusedSimpArgs false
set_option maxRecDepth 4000

theorem append_ints {ops : Array Oper} {rest : List Oper} {o : Oper} {a : Act} {Q : Exit → Act → World → Prop} (hgd : o.guard = none) (f x : Operand)
    (ho : o.op = .call { callee := .builtin .append, args := #[f, x], argTypes := #[26, 26] })
    (B n m c : Nat) (v : Value) (xs ys : List Int) (ad : Addr) (w : World) (hf : a.eval f = v) (hx : a.eval x = .slice (some ad) m c)
    (hown : w.ownsRow B 3 1 v n (vi xs)) (hn : n ≤ 1048576) (hm : m ≤ 1048576) (hl : ys.length = m) (hr : RdS w (some ad) (vi ys)) (hB : B ≤ w.heap.size)
    (h : ∀ v' w', w'.ownsRow B 3 1 v' (n + m) (vi (xs ++ ys)) → Below B w w' → w.heap.size ≤ w'.heap.size → wpList Tryz.prog ops Q rest (a.put o.dst v') w') :
    wpList Tryz.prog ops Q (o :: rest) a w := by
  obtain ⟨i0, hi, hz0, hz1, hz2⟩ := info_parts int_info
  refine wpList_append_own w hgd f x 26 ho B 3 i0 _ 1 8 Tryz.underlying26 hi hz0 hz1 hz2 rfl (by decide) v n (vi xs) hf hown ad m c (vi ys) hx (by rw [vi_length, hl, Nat.mul_one]) ?_ ?_ (by simp only [maxLen]; omega) (by omega) hB ?_
  · intro j u hu
    have hj : j < (vi ys).length := (List.getElem?_eq_some_iff.1 hu).1
    obtain ⟨b', o', ha, _, hc⟩ := hr.block (by omega)
    injection ha with ha
    subst ha
    rw [add_plain, hc j hj, hu]
  · intro u hu
    obtain ⟨y, _, rfl⟩ := List.mem_map.1 hu
    rfl
  · intro v' w' h1 h2 _
    refine h v' w' (by rw [vi_append]; exact h1) ?_ h2.size
    refine (Below.refl B w).grown h2 hB (fun g hg => ?_)
    rcases hown.2 with ⟨rfl, _⟩ | ⟨g', cap, cur, rfl, hbg, _⟩
    · simp [Value.ownBlock] at hg
    · simp [Value.ownBlock] at hg
      omega


/-- 'append' of nothing onto a row of the call's own. -/
theorem run_app_nil (w : World) (ty : TypeId) (B n c : Nat) (v : Value) (xs : List Value) (hown : w.ownsRow B 3 1 v n xs) : (Builtin.append_ #[26, 26] ty #[v, .slice none 0 c]).run Tryz.prog w = .ok v w := by
  obtain ⟨i0, hi, hz0, hz1, hz2⟩ := info_parts int_info
  have hu := run_underlying (P := Tryz.prog) Tryz.underlying26
  have hr := hown.2
  clear hown
  rcases hr with ⟨hv, _⟩ | ⟨g, cap, cur, hv, _, _, hnc, _⟩
  · subst hv
    simp [Builtin.append_, hu, sizeOf, typeInfo, hi, Builtin.lenOf, Builtin.firstCells]
  · subst hv
    simp [Builtin.append_, hu, sizeOf, typeInfo, hi, Builtin.lenOf, Builtin.firstCells, hnc, storeCells]
theorem append_rd {ops : Array Oper} {rest : List Oper} {o : Oper} {a : Act} {Q : Exit → Act → World → Prop} (hgd : o.guard = none) (f x : Operand)
    (ho : o.op = .call { callee := .builtin .append, args := #[f, x], argTypes := #[26, 26] })
    (B n m c : Nat) (v : Value) (xs ys : List Int) (A : Option Addr) (w : World) (hf : a.eval f = v) (hx : a.eval x = .slice A m c)
    (hown : w.ownsRow B 3 1 v n (vi xs)) (hn : n ≤ 1048576) (hm : m ≤ 1048576) (hl : ys.length = m) (hr : RdS w A (vi ys)) (hB : B ≤ w.heap.size)
    (h : ∀ v' w', w'.ownsRow B 3 1 v' (n + m) (vi (xs ++ ys)) → Below B w w' → w.heap.size ≤ w'.heap.size → wpList Tryz.prog ops Q rest (a.put o.dst v') w') :
    wpList Tryz.prog ops Q (o :: rest) a w := by
  cases A with
  | some ad => exact append_ints hgd f x ho B n m c v xs ys ad w hf hx hown hn hm hl hr hB h
  | none =>
    have hy : ys = [] := by
      rcases hr with hr | ⟨b, off, ha, _⟩
      · cases ys with
        | nil => rfl
        | cons y t => simp [vi] at hr
      · cases ha
    subst hy
    obtain rfl : m = 0 := hl.symm
    refine wpList_plain hgd fun K hK => ?_
    have hrun := run_app_nil w o.type B n c v (vi xs) hown
    unfold Oper.wp
    simp [execOp, ho, resolve, invoke, builtin, hf, hx, hrun, Result.andThen]
    exact hK _ _ (h v w (by simpa using hown) (Below.refl _ _) (Nat.le_refl _))

end Go.Proofs.YtennekieiioilaaGreat

