/-
  What 'impl.SplitAny' answers.
-/
import Derived.Test.YtkmfbanlkglkmabGreatDoorDkA
namespace Go.Proofs.YtkmfbanlkglkmabGreatDoor
open Go.ChangeShapes Go.WideShapes Go.ChangeAt Go.RowKit
open Go.ChangeMaps (open_string shut_string)
set_option linter.unusedVariables false
set_option linter.unusedSimpArgs false

/-- Byte i of s occurs in y. -/
def sepAt (s y : ByteArray) (i : Nat) : Bool := y.data.toList.contains (s.data.toList.getD i 0)
/-- Where the part begins that holds place i. -/
def frm (s y : ByteArray) : Nat → Nat
  | 0 => 0
  | i + 1 => if sepAt s y i then i + 1 else frm s y i
/-- The parts that end ahead of place i. -/
def pts (s y : ByteArray) : Nat → List ByteArray
  | 0 => []
  | i + 1 => if sepAt s y i then pts s y i ++ [s.extract (frm s y i) i] else pts s y i
/-- The answer. -/
def splits (s y : ByteArray) : List ByteArray := pts s y s.size ++ [s.extract (frm s y s.size) s.size]
theorem frm_le (s y : ByteArray) : ∀ i, frm s y i ≤ i
  | 0 => Nat.le_refl _
  | i + 1 => by
    have := frm_le s y i
    unfold frm
    split <;> omega
theorem pts_le (s y : ByteArray) : ∀ i, (pts s y i).length ≤ i
  | 0 => Nat.le_refl _
  | i + 1 => by
    have := pts_le s y i
    unfold pts
    split
    · simp; omega
    · omega
theorem frm_yes {s y : ByteArray} {i : Nat} (h : sepAt s y i = true) : frm s y (i + 1) = i + 1 := by rw [frm, if_pos h]
theorem frm_no {s y : ByteArray} {i : Nat} (h : sepAt s y i = false) : frm s y (i + 1) = frm s y i := by rw [frm, if_neg (by simp [h])]
theorem pts_yes {s y : ByteArray} {i : Nat} (h : sepAt s y i = true) : pts s y (i + 1) = pts s y i ++ [s.extract (frm s y i) i] := by rw [pts, if_pos h]
theorem pts_no {s y : ByteArray} {i : Nat} (h : sepAt s y i = false) : pts s y (i + 1) = pts s y i := by rw [pts, if_neg (by simp [h])]
theorem getD_byte {s : ByteArray} {i : Nat} (h : i < s.size) : s.data.toList.getD i 0 = s[i]'h := by
  rw [List.getD_eq_getElem?_getD, List.getElem?_eq_getElem (by simpa using h)]; rfl
theorem sep_yes {s y : ByteArray} {i j : Nat} (h : i < s.size) (hj : j < y.size) (he : s[i]'h = y[j]'hj) : sepAt s y i = true := by
  unfold sepAt
  rw [getD_byte h, he, List.contains_iff_mem]
  exact List.mem_of_getElem (i := j) (h := by simpa using hj) rfl
/-- None of the first j bytes of y is byte i of s. -/
def NoSep (s y : ByteArray) (i j : Nat) : Prop := ∀ t, t < j → ∀ (h : i < s.size) (ht : t < y.size), s[i]'h ≠ y[t]'ht
theorem NoSep.zero (s y : ByteArray) (i : Nat) : NoSep s y i 0 := fun _ h => absurd h (by omega)
theorem NoSep.succ {s y : ByteArray} {i j : Nat} (h : NoSep s y i j) (h1 : ∀ (h : i < s.size) (ht : j < y.size), s[i]'h ≠ y[j]'ht) : NoSep s y i (j + 1) := fun t ht => by
  rcases Nat.lt_or_ge t j with h2 | h2
  · exact h t h2
  · obtain rfl : t = j := by omega
    exact h1
theorem NoSep.no {s y : ByteArray} {i : Nat} (h : NoSep s y i y.size) (hi : i < s.size) : sepAt s y i = false := by
  unfold sepAt
  rw [getD_byte hi, ← Bool.not_eq_true, List.contains_iff_mem]
  intro hm
  obtain ⟨t, ht, he⟩ := List.getElem_of_mem hm
  exact h t (by simpa using ht) hi (by simpa using ht) he.symm
theorem byte_ne {a b : UInt8} (h : ¬ a = b) : ((a.toNat : Int) == (b.toNat : Int)) = false := by
  rw [beq_eq_false_iff_ne]
  intro e
  apply h
  apply UInt8.toNat_inj.1
  omega

theorem string_info : (Tryz.prog.info? 9).map (fun i => (i.zero, i.size, i.bytes)) = some (some (.string ⟨#[]⟩), 1, 16) := by kernel_rfl

/-- A slice value, whatever its capacity, that reads as l in a row of the call's own. -/
def Made (B : Nat) (l : List Value) (w : World) (e : Ending) (w' : World) : Prop :=
  ∃ A c, e = .returned (.slice A l.length c) ∧ l.length ≤ c ∧ OwnS B w' A l ∧ Below w.heap.size w w'

/-- 'append(out, t)' of one string, onto a row of the call's own. -/
theorem append_str {ops : Array Oper} {rest : List Oper} {o : Oper} {a : Act} {Q : Exit → Act → World → Prop} (hgd : o.guard = none) (f x : Operand)
    (ho : o.op = .call { callee := .builtin .append, args := #[f, x], argTypes := #[64, 64] })
    (B n : Nat) (v : Value) (xs : List ByteArray) (t : ByteArray) (w : World) (hf : a.eval f = v) (hx : a.eval x = .slice (some ⟨w.heap.size, 0, none⟩) 1 1)
    (hown : w.ownsRow B 9 1 v n (vs xs)) (hn : n ≤ 1099511627776) (hB : B ≤ w.heap.size)
    (h : ∀ v' w', w'.ownsRow B 9 1 v' (n + 1) (vs (xs ++ [t])) → Below B w w' → wpList Tryz.prog ops Q rest (a.put o.dst v') w') :
    wpList Tryz.prog ops Q (o :: rest) a (w.alloc (.cells #[.string t] 9)) := by
  obtain ⟨i0, hi, hz0, hz1, hz2⟩ := info_parts string_info
  refine wpList_append_own (w.alloc (.cells #[.string t] 9)) hgd f x 64 ho B 9 i0 _ 1 16 Tryz.underlying64 hi hz0 hz1 hz2 rfl (by decide) v n (vs xs) hf (hown.alloc _) ⟨w.heap.size, 0, none⟩ 1 1 [.string t] hx rfl ?_ ?_ (by simp only [maxLen]; omega) (by omega) (by simp; omega) ?_
  · intro j u hu
    have hj : j = 0 := by
      have := (List.getElem?_eq_some_iff.1 hu).1
      simpa using this
    subst hj
    simp at hu
    subst hu
    exact World.cell?_alloc_new _ _ _ _
  · simp [Value.oneCell']
  · intro v' w' h1 h2 _
    refine h v' w' (by rw [vs_append]; exact h1) ?_
    refine ((Below.refl B w).alloc hB _).grown h2 (by simp; omega) (fun g hg => ?_)
    rcases hown.2 with ⟨rfl, _⟩ | ⟨g', cap, cur, rfl, hbg, _⟩
    · simp [Value.ownBlock] at hg
    · simp [Value.ownBlock] at hg
      omega

/-- The local table: one cell for each byte. -/
def tab0 : Array Value := Array.replicate 256 (.bool false)
/-- The table at block g says of each byte whether f holds of it. -/
def TabAt (g : Nat) (wr : World) (f : Nat → Bool) : Prop :=
  g < wr.heap.size ∧ (∀ c, c < 256 → wr.cell? ⟨g, c, none⟩ = some (.bool (f c))) ∧ ∀ c, c < 256 → wr.frozen? ⟨g, c, none⟩ = false
theorem TabAt.set_ {g : Nat} {wr : World} {f f' : Nat → Bool} (h : TabAt g wr f) {c : Nat} (hc : c < 256) (hf : ∀ d, d < 256 → f' d = (f d || d == c)) : TabAt g (wr.setCell ⟨g, c, none⟩ (.bool true)) f' := by
  obtain ⟨h1, h2, h3⟩ := h
  refine ⟨by simpa using h1, fun d hd => ?_, fun d hd => by rw [World.frozen?_setCell]; exact h3 d hd⟩
  rw [hf d hd]
  by_cases e : d = c
  · subst e
    rw [World.cell?_setCell_same wr ⟨g, d, none⟩ _ (h2 d hd)]
    simp
  · rw [World.cell?_setCell_other wr ⟨g, c, none⟩ ⟨g, d, none⟩ _ (by intro q; injection q with _ q2; exact e q2.symm), h2 d hd]
    simp [e]
theorem TabAt.below {g : Nat} {wr w' : World} {f : Nat → Bool} (h : TabAt g wr f) {B : Nat} (hB : g < B) (hb : Below B wr w') : TabAt g w' f := by
  obtain ⟨h1, h2, h3⟩ := h
  exact ⟨Nat.lt_of_lt_of_le h1 hb.size, fun c hc => by rw [hb.cell (p := ⟨g, c, none⟩) hB]; exact h2 c hc, fun c hc => by rw [hb.frozen (p := ⟨g, c, none⟩) hB]; exact h3 c hc⟩
/-- Byte c is among the first j of y. -/
def amongTo (y : ByteArray) (j c : Nat) : Bool := (y.data.toList.take j).contains (UInt8.ofNat c)
theorem amongTo_zero (y : ByteArray) : amongTo y 0 = fun _ => false := by funext c; simp [amongTo]
theorem amongTo_succ {y : ByteArray} {j : Nat} (h : j < y.size) (d : Nat) (hd : d < 256) : amongTo y (j + 1) d = (amongTo y j d || d == (y[j]'h).toNat) := by
  unfold amongTo
  rw [List.take_succ_eq_append_getElem (by simpa using h), List.contains_append]
  congr 1
  have e : (y.data.toList[j]'(by simpa using h)) = y[j]'h := rfl
  rw [e, Bool.eq_iff_iff]
  simp only [List.contains_cons, List.contains_nil, Bool.or_false, beq_iff_eq]
  constructor
  · intro q
    rw [← q, UInt8.toNat_ofNat_of_lt' (by simpa [UInt8.size] using hd)]
  · intro q
    rw [q, UInt8.ofNat_toNat]
theorem amongTo_all {s y : ByteArray} {k : Nat} (h : k < s.size) : amongTo y y.size (s[k]'h).toNat = sepAt s y k := by
  unfold amongTo sepAt
  rw [getD_byte h, UInt8.ofNat_toNat, List.take_of_length_le (by simp)]

theorem splits_length (s y : ByteArray) : 0 < (vs (splits s y)).length ∧ (vs (splits s y)).length ≤ s.size + 1 := by
  have := pts_le s y s.size
  rw [vs_length, splits, List.length_append]
  simp
  omega

end Go.Proofs.YtkmfbanlkglkmabGreatDoor
